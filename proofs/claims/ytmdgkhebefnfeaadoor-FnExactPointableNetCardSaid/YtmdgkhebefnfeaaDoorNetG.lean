/- Digits of 16 values: the model's and the program's, of one relation. The program's digits of a relation, and relations of digits. -/
import Derived.Test.YtmdgkhebefnfeaaDoorNetE
import Derived.Test.YtmdgkhebefnfeaaDoorRelU
import Derived.Lib.Bytealg
import Derived.Test.YtmdgkhebefnfeaaDoorShelf
namespace Go.Proofs.YtmdgkhebefnfeaaDoor.C
section
open Go.RowKit
set_option linter.unusedVariables false
set_option linter.unusedSimpArgs false
/-- the text of all digits -/
def hexB : ByteArray := ⟨#[48, 49, 50, 51, 52, 53, 54, 55, 56, 57, 97, 98, 99, 100, 101, 102]⟩
theorem hexB_at {k : Nat} (h : k < 16) : (hexB[k]'(by exact h)) = hxd k := by
  rcases nat16 h with rfl | rfl | rfl | rfl | rfl | rfl | rfl | rfl | rfl | rfl | rfl | rfl | rfl | rfl | rfl | rfl <;> rfl
theorem hxI_ge (c : UInt8) : -1 ≤ hxI c ∧ hxI c < 16 := by
  rcases hxI_cases c with h | ⟨k, hk, _, h⟩ <;> omega
set_option maxHeartbeats 2000000 in
/-- The first place of a byte among the digits. -/
theorem find_hex (c : UInt8) (w : World) :
    Calls Tryd.prog 178 #[.string ⟨#[48, 49, 50, 51, 52, 53, 54, 55, 56, 57, 97, 98, 99, 100, 101, 102]⟩, .int .u8 c.toNat] w fun e w' => e = .returned (.int .i64 (hxI c)) ∧ w = w' := by
  have HS := AllLt.start w; go_enter Tryd.func178, Tryd.ntmps178
  go_wp2
  go_loop [5] (fun v => ∃ k : Nat, k ≤ 16 ∧ v = .int .i64 k ∧ Hid (∀ j, j < k → hxd j ≠ c)) (fun v => 16 - (intOf v).toNat)
  case atStart => exact ⟨0, by omega, rfl, hid (fun j hj => by omega)⟩
  case round =>
    obtain ⟨k, hk, rfl, HF⟩ := hrel
    clear HS
    by_cases h16 : k < 16
    · have hel : ((⟨#[48, 49, 50, 51, 52, 53, 54, 55, 56, 57, 97, 98, 99, 100, 101, 102]⟩ : ByteArray)[k]'(by exact h16)) = hxd k := hexB_at h16
      have hdi : decide ((k : Int) < 16) = true := by simp; omega
      by_cases hq : hxd k = c
      · have HF2 := hid (hxI_hit h16 hq)
        have hq4 : ((((⟨#[48, 49, 50, 51, 52, 53, 54, 55, 56, 57, 97, 98, 99, 100, 101, 102]⟩ : ByteArray)[k]'(by exact h16)).toNat : Int) == (c.toNat : Int)) = true := by
          rw [hel, hq]; simp
        clear hq HF hel
        go_wp2
        go_ret
        exact ⟨by rw [HF2.out]; rfl, rfl⟩
      · have HF2 := hid (show ∀ j, j < k + 1 → hxd j ≠ c from fun j hj => by
          by_cases e : j = k
          · rw [e]; exact hq
          · exact HF.out j (by omega))
        have hq4 : ((((⟨#[48, 49, 50, 51, 52, 53, 54, 55, 56, 57, 97, 98, 99, 100, 101, 102]⟩ : ByteArray)[k]'(by exact h16)).toNat : Int) == (c.toNat : Int)) = false := by
          rw [hel, beq_eq_false_iff_ne]
          intro e
          exact hq (UInt8.toNat_inj.1 (by omega))
        clear hq HF hel
        go_wp2
        go_round
        case rel => exact ⟨k + 1, by omega, by go_num, HF2⟩
        case measure => simp [intOf]; omega
    · obtain rfl : k = 16 := by omega
      have HF2 := hid (hxI_miss fun j hj => HF.out j hj)
      clear HF
      go_wp2
      go_ret
      exact ⟨by rw [HF2.out]; rfl, rfl⟩
theorem l5Hex_any (c : UInt8) (w : World) :
    Calls Tryd.prog 157 #[.int .u8 c.toNat] w fun e w' => e = .returned (.int .i64 (hxI c)) ∧ w = w' := by
  have HS := AllLt.start w; go_enter Tryd.func157, Tryd.ntmps157
  go_wp2_with (first | (go_at_call 178; (with_reducible refine (find_hex _ _).mono ?_); rintro e w' ⟨rfl, rfl⟩))
  go_ret
  exact ⟨rfl, rfl⟩
theorem takeB (s : ByteArray) (k : Nat) (h : k < s.size) : s.data.toList.take (k + 1) = s.data.toList.take k ++ [s[k]] := by
  rw [List.take_succ_eq_append_getElem (by simpa using h)]; rfl
theorem numF_take (s : ByteArray) {k : Nat} (h : k < s.size) : numF (s.data.toList.take (k + 1)) = numS (numF (s.data.toList.take k)) s[k] := by rw [takeB s k h, numF_snoc]
theorem nb_neg {s : ByteArray} {k : Nat} (h : numF (s.data.toList.take k) = -1) : nb s = -1 := by
  have := numF_neg (m := s.data.toList.drop k) h
  rwa [List.take_append_drop] at this
theorem nb_four {s : ByteArray} (h : s.size = 4) : numF (s.data.toList.take 4) = nb s := by
  rw [List.take_of_length_le (by rw [Array.length_toList]; exact Nat.le_of_eq h)]; rfl
theorem pow16 {k : Nat} (h : k ≤ 4) : (16 : Int) ^ k ≤ 65536 := by
  have : k = 0 ∨ k = 1 ∨ k = 2 ∨ k = 3 ∨ k = 4 := by omega
  rcases this with rfl | rfl | rfl | rfl | rfl <;> decide
theorem num_lt (s : ByteArray) {k : Nat} (h : k ≤ 4) : numF (s.data.toList.take k) < 65536 := by
  rcases numF_pow (s.data.toList.take k) with e | ⟨_, e⟩
  · omega
  · have h1 : (s.data.toList.take k).length ≤ 4 := by rw [List.length_take]; omega
    have := pow16 h1
    omega
set_option maxHeartbeats 1000000 in
theorem l5Number_any (s : ByteArray) (hs : s.size = 4) (w : World) :
    Calls Tryd.prog 114 #[.string s] w fun e w' => e = .returned (.int .i64 (nb s)) ∧ w = w' := by
  have HS := AllLt.start w; go_enter Tryd.func114, Tryd.ntmps114
  go_wp2
  go_loop [3, 4] (fun n v => ∃ (k : Nat) (a : Int), k ≤ 4 ∧ v = .int .i64 k ∧ n = .int .i64 a ∧ 0 ≤ a ∧ a < 65536 ∧ Hid (numF (s.data.toList.take k) = a)) (fun _ v => 4 - (intOf v).toNat)
  case atStart => exact ⟨0, 0, by omega, rfl, rfl, by omega, by omega, hid (by simp [numF])⟩
  case round =>
    obtain ⟨k, a, hk, rfl, rfl, ha, ha2, HF⟩ := hrel
    clear HS
    by_cases h4 : k < 4
    · have hdi : decide ((k : Int) < 4) = true := by simp; omega
      have hks : k < s.size := by omega
      have HN := hid (numF_take s hks)
      have HL := hid (num_lt s (show k + 1 ≤ 4 by omega))
      rcases hxI_cases s[k] with h | ⟨j, hj, _, h⟩
      · have HX := hid (nb_neg (k := k + 1) (by rw [HN.out]; exact numS_off h))
        have HQ := hid h
        clear h HN HF HL
        go_wp2_with (first | (go_at_call 157; (with_reducible refine (l5Hex_any s[k] _).mono ?_); rintro e w' ⟨rfl, rfl⟩; rw [HQ.out]))
        go_ret
        exact ⟨ret_int HX.out.symm, rfl⟩
      · have HQ := hid h
        have HX := hid (show numF (s.data.toList.take (k + 1)) = 16 * a + j by rw [HN.out, HF.out]; exact numS_on ha h)
        have hlt : 16 * a + j < 65536 := by have := HL.out; rw [HX.out] at this; exact this
        have hj0 : (0 : Int) ≤ (j : Int) := by omega
        clear h HN HF HL
        go_wp2_with (first | (go_at_call 157; (with_reducible refine (l5Hex_any s[k] _).mono ?_); rintro e w' ⟨rfl, rfl⟩; rw [HQ.out]))
        go_round
        case rel => exact ⟨k + 1, 16 * a + j, by omega, by go_num, by go_num, by omega, by omega, HX⟩
        case measure => simp [intOf]; omega
    · obtain rfl : k = 4 := by omega
      have HX := hid (nb_four hs)
      go_wp2
      go_ret
      exact ⟨ret_int (by rw [← HX.out, HF.out]), rfl⟩
theorem hex_ext {k : Nat} (h : k < 16) : (⟨#[48, 49, 50, 51, 52, 53, 54, 55, 56, 57, 97, 98, 99, 100, 101, 102]⟩ : ByteArray).extract k (k + 1) = ⟨#[hxd k]⟩ := by
  rcases nat16 h with rfl | rfl | rfl | rfl | rfl | rfl | rfl | rfl | rfl | rfl | rfl | rfl | rfl | rfl | rfl | rfl <;> rfl
theorem and15 {n : Nat} (h : n < 65536) : bits .and .i64 (n : Int) 15 = ((n % 16 : Nat) : Int) := by
  show IntKind.i64.wrap ((BitVec.ofInt 64 (n : Int) &&& BitVec.ofInt 64 ((15 : Nat) : Int)).toNat : Int) = _
  have hx : n &&& 15 = n % 16 := Nat.and_two_pow_sub_one_eq_mod n 4
  rw [BitVec.toNat_and, ofInt_u64 n (by omega), ofInt_u64 15 (by omega), hx, IntWalk.i64_in _ (by omega)]
set_option maxHeartbeats 2000000 in
theorem l5Digits_any (r : Nat) (hr : r < 65536) (w : World) :
    Calls Tryd.prog 116 #[.int .i64 r] w fun e w' => e = .returned (.string (dig r)) ∧ w = w' := by
  have a0 := and15 hr
  have a1 : bits .and .i64 ((r : Int) / 16) 15 = ((r / 16 % 16 : Nat) : Int) := and15 (show r / 16 < 65536 by omega)
  have a2 : bits .and .i64 ((r : Int) / 256) 15 = ((r / 256 % 16 : Nat) : Int) := and15 (show r / 256 < 65536 by omega)
  have a3 : bits .and .i64 ((r : Int) / 4096) 15 = ((r / 4096 % 16 : Nat) : Int) := and15 (show r / 4096 < 65536 by omega)
  have HS := AllLt.start w; go_enter Tryd.func116, Tryd.ntmps116
  go_wp2
  go_rounds 5
  all_goals
    go_ret
    exact ⟨ret_str (by rw [hex_ext (Nat.mod_lt _ (by omega)), hex_ext (Nat.mod_lt _ (by omega)), hex_ext (Nat.mod_lt _ (by omega)), hex_ext (Nat.mod_lt _ (by omega))]; rfl), rfl⟩
theorem indexByte_hex (c : UInt8) : Lib.indexByte [48, 49, 50, 51, 52, 53, 54, 55, 56, 57, 97, 98, 99, 100, 101, 102] c = hxI c := by
  rcases hxI_cases c with h | ⟨k, hk, e, h⟩
  · have H : ∀ k, k < 16 → hxd k ≠ c := fun k hk e => by
      have := hxI_hit hk e; omega
    have q : ∀ k, k < 16 → (hxd k == c) = false := fun k hk => by simpa using H k hk
    have q0 := q 0 (by omega); have q1 := q 1 (by omega); have q2 := q 2 (by omega); have q3 := q 3 (by omega); have q4 := q 4 (by omega); have q5 := q 5 (by omega); have q6 := q 6 (by omega); have q7 := q 7 (by omega)
    have q8 := q 8 (by omega); have q9 := q 9 (by omega); have q10 := q 10 (by omega); have q11 := q 11 (by omega); have q12 := q 12 (by omega); have q13 := q 13 (by omega); have q14 := q 14 (by omega); have q15 := q 15 (by omega)
    simp only [hxd, List.getD_cons_zero, List.getD_cons_succ] at q0 q1 q2 q3 q4 q5 q6 q7 q8 q9 q10 q11 q12 q13 q14 q15
    rw [h]
    simp [Lib.indexByte, q0, q1, q2, q3, q4, q5, q6, q7, q8, q9, q10, q11, q12, q13, q14, q15]
  · subst e
    rw [h]
    clear h
    rcases nat16 hk with rfl | rfl | rfl | rfl | rfl | rfl | rfl | rfl | rfl | rfl | rfl | rfl | rfl | rfl | rfl | rfl <;> decide +kernel
end
section
open Go.RowKit
set_option linter.unusedVariables false
set_option linter.unusedSimpArgs false
theorem or16 {a k : Nat} (ha : a < 65536) (hk : k < 16) : bits .or .i64 ((a : Int) * 16) (k : Int) = ((16 * a + k : Nat) : Int) := by
  have hx : a * 16 ||| k = 16 * a + k := by
    rw [show a * 16 = a <<< 4 by rw [Nat.shiftLeft_eq], ← Nat.shiftLeft_add_eq_or_of_lt (show k < 2 ^ 4 by omega), Nat.shiftLeft_eq]; omega
  rw [show ((a : Int) * 16) = ((a * 16 : Nat) : Int) by push_cast; rfl]
  show IntKind.i64.wrap ((BitVec.ofInt 64 ((a * 16 : Nat) : Int) ||| BitVec.ofInt 64 ((k : Nat) : Int)).toNat : Int) = _
  rw [BitVec.toNat_or, ofInt_u64 _ (by omega), ofInt_u64 k (by omega), hx, IntWalk.i64_in _ (by omega)]
/-- the relation of digits, and whether they are those of one -/
def rdI (s : ByteArray) : Int := if rv (nb s) then nb s else 0
theorem rdI_on {s : ByteArray} {r : Nat} (hr : r < 8192) (h : nb s = r) : rdI s = r ∧ rv (nb s) = true := by
  have e : rv (nb s) = true := by rw [h]; exact rv_nat r hr
  exact ⟨by rw [rdI, if_pos e, h], e⟩
theorem rdI_off {s : ByteArray} (h : rv (nb s) = false) : rdI s = 0 := by simp [rdI, h]
theorem ret_ib {a a' : Int} {b b' : Bool} (h : a = a') (h' : b = b') : Ending.returned (.tuple #[.int .i64 a, .bool b]) = .returned (.tuple #[.int .i64 a', .bool b']) := by rw [h, h']
theorem idxHex_any (c : UInt8) (w : World) :
    Calls Tryd.prog 105 #[.string ⟨#[48, 49, 50, 51, 52, 53, 54, 55, 56, 57, 97, 98, 99, 100, 101, 102]⟩, .int .u8 c.toNat] w fun e w' => e = .returned (.int .i64 (hxI c)) ∧ w = w' :=
  (Tryd.strings_IndexByte _ _ w).mono fun e w' ⟨he, hw⟩ => ⟨by
    rw [he, ← indexByte_hex c]
    have : ((c.toNat : Int).toNat.toUInt8) = c := by simp
    rw [this], hw.symm⟩
set_option maxHeartbeats 1000000 in
theorem relOfDigits_any (s : ByteArray) (hs : s.size = 4) (w : World) :
    Calls Tryd.prog 118 #[.string s] w fun e w' => e = .returned (.tuple #[.int .i64 (rdI s), .bool (rv (nb s))]) ∧ w = w' := by
  have h4i : (s.size : Int) = 4 := by omega
  have HS := AllLt.start w; go_enter Tryd.func118, Tryd.ntmps118
  go_wp2
  go_loop [4, 9] (fun n v => ∃ k a : Nat, k ≤ 4 ∧ v = .int .i64 k ∧ n = .int .i64 a ∧ a < 65536 ∧ Hid (numF (s.data.toList.take k) = a)) (fun _ v => 4 - (intOf v).toNat)
  case atStart => exact ⟨0, 0, by omega, rfl, rfl, by omega, hid (by simp [numF])⟩
  case round =>
    obtain ⟨k, a, hk, rfl, rfl, ha, HF⟩ := hrel
    clear HS
    by_cases h4 : k < 4
    · have hdi : decide ((k : Int) < 4) = true := by simp; omega
      have hks : k < s.size := by omega
      have HN := hid (numF_take s hks)
      have HL := hid (num_lt s (show k + 1 ≤ 4 by omega))
      rcases hxI_cases s[k] with h | ⟨j, hj, _, h⟩
      · have HX := hid (nb_neg (k := k + 1) (by rw [HN.out]; exact numS_off h))
        have HX2 := hid (show rv (nb s) = false by rw [HX.out]; rfl)
        have HQ := hid h
        clear h HN HF HL
        go_wp2_with (first | (go_at_call 105; (with_reducible refine (idxHex_any s[k] _).mono ?_); rintro e w' ⟨rfl, rfl⟩; rw [HQ.out]))
        go_ret2
        exact ⟨ret_ib (rdI_off HX2.out).symm HX2.out.symm, rfl⟩
      · have HQ := hid h
        have HX := hid (show numF (s.data.toList.take (k + 1)) = ((16 * a + j : Nat) : Int) by rw [HN.out, HF.out]; exact (numS_on (by omega) h).trans (by push_cast; rfl))
        have hlt : 16 * a + j < 65536 := by have := HL.out; rw [HX.out] at this; omega
        have HO := hid (or16 ha hj)
        clear h HN HF HL
        go_wp2_with (first | (go_at_call 105; (with_reducible refine (idxHex_any s[k] _).mono ?_); rintro e w' ⟨rfl, rfl⟩; rw [HQ.out]))
        go_round
        case rel => exact ⟨k + 1, 16 * a + j, by omega, by go_num, ret_val HO.out, hlt, HX⟩
        case measure => simp [intOf]; omega
    · obtain rfl : k = 4 := by omega
      have HX := hid (HF.out.symm.trans (nb_four hs))
      cases hv : rv (a : Int)
      · have HV := hid hv
        clear hv
        go_wp2_with (first | (go_at_call 123; (with_reducible refine (iRelValid_any _ _).mono ?_); rintro e w' ⟨rfl, rfl⟩; rw [HV.out]))
        go_ret2
        exact ⟨ret_ib (rdI_off (by rw [← HX.out]; exact HV.out)).symm (by rw [← HX.out]; exact HV.out.symm), rfl⟩
      · have HV := hid hv
        clear hv
        go_wp2_with (first | (go_at_call 123; (with_reducible refine (iRelValid_any _ _).mono ?_); rintro e w' ⟨rfl, rfl⟩; rw [HV.out]))
        go_ret2
        exact ⟨ret_ib (by rw [rdI, ← HX.out, if_pos HV.out]) (by rw [← HX.out]; exact HV.out.symm), rfl⟩
theorem hex_idx {k : Nat} (h : k < 16) (w : World) : (Instr.index 9 (.string ⟨#[48, 49, 50, 51, 52, 53, 54, 55, 56, 57, 97, 98, 99, 100, 101, 102]⟩) (.int .i64 k)).run Tryd.prog w = .ok (.int .u8 (hxd k).toNat) w := by
  rcases nat16 h with rfl | rfl | rfl | rfl | rfl | rfl | rfl | rfl | rfl | rfl | rfl | rfl | rfl | rfl | rfl | rfl <;> kernel_rfl
theorem conv4 (w : World) (x0 x1 x2 x3 : UInt8) :
    (convert 140 9 (.slice (some ⟨w.heap.size, 0, none⟩) 4 4)).run Tryd.prog (w.alloc (.cells #[.int .u8 x0.toNat, .int .u8 x1.toNat, .int .u8 x2.toNat, .int .u8 x3.toNat] 191)) =
      .ok (.string ⟨#[x0, x1, x2, x3]⟩) (w.alloc (.cells #[.int .u8 x0.toNat, .int .u8 x1.toNat, .int .u8 x2.toNat, .int .u8 x3.toNat] 191)) := by
  rw [run_convert_bytes_string _ _ _ 5 _ _ _ Tryd.underlying140 Tryd.underlying5 Tryd.underlying9, run_bytesToString _ _ 4 4 [(x0.toNat : Int), x1.toNat, x2.toNat, x3.toNat]]
  · simp
    rfl
  · have := run_loadCells_list (P := Tryd.prog) (w.alloc (.cells #[.int .u8 x0.toNat, .int .u8 x1.toNat, .int .u8 x2.toNat, .int .u8 x3.toNat] 191)) ⟨w.heap.size, 0, none⟩ [.int .u8 x0.toNat, .int .u8 x1.toNat, .int .u8 x2.toNat, .int .u8 x3.toNat] (fun j v hj => by
      match j, hj with
      | 0, hj => simp at hj; subst hj; simp [Addr.add, go_sem]
      | 1, hj => simp at hj; subst hj; simp [Addr.add, go_sem]
      | 2, hj => simp at hj; subst hj; simp [Addr.add, go_sem]
      | 3, hj => simp at hj; subst hj; simp [Addr.add, go_sem])
    simpa using this
set_option maxHeartbeats 2000000 in
set_option maxRecDepth 100000 in
theorem rdigits_any (r : Nat) (hr : r < 65536) (w : World) :
    Calls Tryd.prog 136 #[.int .i64 r] w fun e w' => e = .returned (.string (dig r)) ∧ Below w.heap.size w w' := by
  have a0 := and15 hr
  have a1 : bits .and .i64 ((r : Int) / 16) 15 = ((r / 16 % 16 : Nat) : Int) := and15 (show r / 16 < 65536 by omega)
  have a2 : bits .and .i64 ((r : Int) / 16 / 16) 15 = ((r / 256 % 16 : Nat) : Int) := by rw [show (r : Int) / 16 / 16 = ((r / 256 : Nat) : Int) by omega]; exact and15 (show r / 256 < 65536 by omega)
  have a3 : bits .and .i64 ((r : Int) / 16 / 16 / 16) 15 = ((r / 4096 % 16 : Nat) : Int) := by rw [show (r : Int) / 16 / 16 / 16 = ((r / 4096 : Nat) : Int) by omega]; exact and15 (show r / 4096 < 65536 by omega)
  have s0 := hex_idx (Nat.mod_lt r (show 0 < 16 by omega))
  have s1 := hex_idx (Nat.mod_lt (r / 16) (show 0 < 16 by omega))
  have s2 := hex_idx (Nat.mod_lt (r / 256) (show 0 < 16 by omega))
  have s3 := hex_idx (Nat.mod_lt (r / 4096) (show 0 < 16 by omega))
  have hcv := conv4 w
  have HS := AllLt.start w; go_enter Tryd.func136, Tryd.ntmps136
  go_wp2
  go_rounds 5
  all_goals
    go_ret
    exact ⟨ret_str (by
      unfold dig digL
      rw [← hexB_at (Nat.mod_lt (r / 4096) (show 0 < 16 by omega)), ← hexB_at (Nat.mod_lt (r / 256) (show 0 < 16 by omega)), ← hexB_at (Nat.mod_lt (r / 16) (show 0 < 16 by omega)), ← hexB_at (Nat.mod_lt r (show 0 < 16 by omega))]
      rfl), by (repeat' (first | (with_reducible exact Below.refl _ _) | (with_reducible refine Below.setCell ?_ ?_ _) | (with_reducible refine below_drewN' ?_ _) | (with_reducible refine below_drew' ?_) | (with_reducible refine Below.alloc ?_ ?_ _) | (with_reducible assumption) | go_size))⟩
end
end Go.Proofs.YtmdgkhebefnfeaaDoor.C
