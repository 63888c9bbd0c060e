/- The model's words over chapter 2's letters. Walks over chapter 2's table of basic relations, for the program; the model's words for the same. -/
import Derived.Test.YtmdgkhebefnfeaaDoorTwo
import Derived.Deep.QuietTactic
import Derived.BigQuiet
namespace Go.Proofs.YtmdgkhebefnfeaaDoor.C
section
open Go.RowKit
set_option linter.unusedVariables false
set_option linter.unusedSimpArgs false
theorem pl_one (c : UInt8) (k : Nat) : pl ⟨#[c]⟩ k = (ltb k == c) := by
  rw [Bool.eq_iff_iff]; simp [pl, ltr]
set_option maxHeartbeats 2000000 in
/-- The first place of a byte among the letters. -/
theorem find_letters (c : UInt8) (w : World) :
    Calls Tryd.prog 178 #[.string ⟨#[98, 109, 111, 115, 100, 102, 101, 70, 68, 83, 79, 77, 66]⟩, .int .u8 c.toNat] w fun e w' => e = .returned (.int .i64 (lixI ⟨#[c]⟩)) ∧ w = w' := by
  have HS := AllLt.start w; go_enter Tryd.func178, Tryd.ntmps178
  go_wp2
  go_loop [5] (fun v => ∃ k : Nat, k ≤ 13 ∧ v = .int .i64 k ∧ Hid (firstF (pl ⟨#[c]⟩) k (13 - k) = lix ⟨#[c]⟩)) (fun v => 13 - (intOf v).toNat)
  case atStart => exact ⟨0, by omega, rfl, hid rfl⟩
  case round =>
    obtain ⟨k, hk, rfl, HF⟩ := hrel
    clear HS
    by_cases h13 : k < 13
    · obtain ⟨n, hn⟩ : ∃ n, 13 - k = n + 1 := ⟨12 - k, by omega⟩
      have hel : ((⟨#[98, 109, 111, 115, 100, 102, 101, 70, 68, 83, 79, 77, 66]⟩ : ByteArray)[k]'(by exact h13)) = ltb k := by
        rcases nat13 h13 with rfl | rfl | rfl | rfl | rfl | rfl | rfl | rfl | rfl | rfl | rfl | rfl | rfl <;> rfl
      have hdi : decide ((k : Int) < 13) = true := by simp; omega
      cases hq : ltb k == c
      · have HF2 := hid (show firstF (pl ⟨#[c]⟩) (k + 1) (13 - (k + 1)) = lix ⟨#[c]⟩ by rw [← HF.out, hn, firstF_miss (by rw [pl_one]; exact hq)]; congr 1; omega)
        have hq4 : ((((⟨#[98, 109, 111, 115, 100, 102, 101, 70, 68, 83, 79, 77, 66]⟩ : ByteArray)[k]'(by exact h13)).toNat : Int) == (c.toNat : Int)) = false := by
          rw [hel, beq_eq_false_iff_ne]
          intro e
          have e2 : ltb k = c := UInt8.toNat_inj.1 (by omega)
          simp [e2] at hq
        clear hq hn HF hel
        go_wp2
        go_round
        case rel => exact ⟨k + 1, by omega, by go_num, HF2⟩
        case measure => simp [intOf]; omega
      · have e2 : ltb k = c := by simpa using hq
        have HF2 := hid (lixI_hit (show lix ⟨#[c]⟩ = ((k : Int), true) by rw [← HF.out, hn, firstF_hit (by rw [pl_one]; exact hq)]))
        have hq4 : ((((⟨#[98, 109, 111, 115, 100, 102, 101, 70, 68, 83, 79, 77, 66]⟩ : ByteArray)[k]'(by exact h13)).toNat : Int) == (c.toNat : Int)) = true := by
          rw [hel, e2]; simp
        clear hq hn HF hel e2
        go_wp2
        go_ret
        exact ⟨by rw [HF2.out]; rfl, rfl⟩
    · obtain rfl : k = 13 := by omega
      have HF2 := hid (lixI_miss (show lix ⟨#[c]⟩ = (0, false) by rw [← HF.out]; rfl))
      go_wp2
      go_ret
      exact ⟨by rw [HF2.out]; rfl, rfl⟩
theorem ret_ii {k : IntKind} {a b a' b' : Int} (h0 : a = a') (h1 : b = b') : Ending.returned (.tuple #[.int k a, .int k b]) = .returned (.tuple #[.int k a', .int k b']) := by rw [h0, h1]
end
section
open Go.RowKit
set_option linter.unusedVariables false
set_option linter.unusedSimpArgs false

theorem same_t {a b : ByteArray} (h : a = b) : (a.toList == b.toList) = true := by rw [h]; simp
theorem same_f {a b : ByteArray} (h : ¬ a = b) : (a.toList == b.toList) = false := by
  rw [beq_eq_false_iff_ne]
  intro e
  rw [ByteArray.toList_eq, ByteArray.toList_eq] at e
  exact h (ByteArray.ext (Array.ext' e))
/-- The table of the basic relations lies as the program's text lays it. -/
def TBc : Array Value := #[.string ⟨#[98]⟩, .int .i64 0, .int .i64 0, .string ⟨#[109]⟩, .int .i64 0, .int .i64 1, .string ⟨#[111]⟩, .int .i64 0, .int .i64 2, .string ⟨#[115]⟩, .int .i64 1, .int .i64 2, .string ⟨#[100]⟩, .int .i64 2, .int .i64 2, .string ⟨#[102]⟩, .int .i64 2, .int .i64 3, .string ⟨#[101]⟩, .int .i64 1, .int .i64 3,
  .string ⟨#[70]⟩, .int .i64 0, .int .i64 3, .string ⟨#[68]⟩, .int .i64 0, .int .i64 4, .string ⟨#[83]⟩, .int .i64 1, .int .i64 4, .string ⟨#[79]⟩, .int .i64 2, .int .i64 4, .string ⟨#[77]⟩, .int .i64 3, .int .i64 4, .string ⟨#[66]⟩, .int .i64 4, .int .i64 4]
def TB (w : World) : Prop := Tb w 1 TBc
theorem TB.below {w w' : World} (h : TB w) (hb : Below w.heap.size w w') : TB w' := Tb.below h hb (Tb.lt h)
theorem TB.drewN {w : World} (h : TB w) (n : Nat) : TB (w.drewN n) := h
theorem tb_l {w : World} (h : TB w) : ∀ k : Nat, k < 13 → w.cell? ⟨1, 3 * k, none⟩ = some (.string (ltr k)) := fun k hk => by
  rcases nat13 hk with rfl | rfl | rfl | rfl | rfl | rfl | rfl | rfl | rfl | rfl | rfl | rfl | rfl <;> exact Tb.cell h _ _ rfl
theorem tb_f {w : World} (h : TB w) : ∀ k : Nat, k < 13 → w.cell? ⟨1, 3 * k + 1, none⟩ = some (.int .i64 (zf k)) := fun k hk => by
  rcases nat13 hk with rfl | rfl | rfl | rfl | rfl | rfl | rfl | rfl | rfl | rfl | rfl | rfl | rfl <;> exact Tb.cell h _ _ rfl
theorem tb_t {w : World} (h : TB w) : ∀ k : Nat, k < 13 → w.cell? ⟨1, 3 * k + 2, none⟩ = some (.int .i64 (zt k)) := fun k hk => by
  rcases nat13 hk with rfl | rfl | rfl | rfl | rfl | rfl | rfl | rfl | rfl | rfl | rfl | rfl | rfl <;> exact Tb.cell h _ _ rfl
theorem zones_any (k : Nat) (hk : k < 13) (w : World) (hT : TB w) :
    Calls Tryd.prog 162 #[.int .i64 k] w fun e w' => e = .returned (.tuple #[.int .i64 (zf k), .int .i64 (zt k)]) ∧ ∃ n, w' = w.drewN n := by
  have hf := tb_f hT k hk
  have ht := tb_t hT k hk
  clear hT
  rcases nat13 hk with rfl | rfl | rfl | rfl | rfl | rfl | rfl | rfl | rfl | rfl | rfl | rfl | rfl
  all_goals
    clear hk
    have HS := AllLt.start w; go_enter Tryd.func162, Tryd.ntmps162
    go_wp2
    go_quiet (fail)
    go_wp2
    go_ret2
    exact ⟨rfl, _, rfl⟩
end
end Go.Proofs.YtmdgkhebefnfeaaDoor.C
