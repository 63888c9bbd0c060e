/- The model's words over chapter 2's letters. -/
import Derived.Test.YtnogdjmciekieaaDoorTwo
import Derived.Deep.QuietTactic
import Derived.BigQuiet
namespace Go.Proofs.YtnogdjmciekieaaDoor.C
open Go.RowKit
set_option linter.unusedVariables false
set_option linter.unusedSimpArgs false
theorem pl_one (c : UInt8) (k : Nat) : pl ⟨#[c]⟩ k = (ltb k == c) := by
  rw [Bool.eq_iff_iff]; simp [pl, ltr]
set_option maxHeartbeats 2000000 in
/-- The first place of a byte among the letters. -/
theorem find_letters (c : UInt8) (w : World) :
    Calls Tryd.prog 112 #[.string ⟨#[98, 109, 111, 115, 100, 102, 101, 70, 68, 83, 79, 77, 66]⟩, .int .u8 c.toNat] w fun e w' => e = .returned (.int .i64 (lixI ⟨#[c]⟩)) ∧ w = w' := by
  have HS := AllLt.start w; go_enter Tryd.func112, Tryd.ntmps112
  go_wp2
  go_loop [5] (fun v => ∃ k : Nat, k ≤ 13 ∧ v = .int .i64 k ∧ Hid (firstF (pl ⟨#[c]⟩) k (13 - k) = lix ⟨#[c]⟩)) (fun v => 13 - (intOf v).toNat)
  case atStart => exact ⟨0, by omega, rfl, hid rfl⟩
  case round =>
    obtain ⟨k, hk, rfl, HF⟩ := hrel
    clear HS
    by_cases h13 : k < 13
    · obtain ⟨n, hn⟩ : ∃ n, 13 - k = n + 1 := ⟨12 - k, by omega⟩
      have hel : ((⟨#[98, 109, 111, 115, 100, 102, 101, 70, 68, 83, 79, 77, 66]⟩ : ByteArray)[k]'(by exact h13)) = ltb k := by
        rcases nat13 h13 with rfl | rfl | rfl | rfl | rfl | rfl | rfl | rfl | rfl | rfl | rfl | rfl | rfl <;> rfl
      have hdi : decide ((k : Int) < 13) = true := by simp; omega
      cases hq : ltb k == c
      · have HF2 := hid (show firstF (pl ⟨#[c]⟩) (k + 1) (13 - (k + 1)) = lix ⟨#[c]⟩ by rw [← HF.out, hn, firstF_miss (by rw [pl_one]; exact hq)]; congr 1; omega)
        have hq4 : ((((⟨#[98, 109, 111, 115, 100, 102, 101, 70, 68, 83, 79, 77, 66]⟩ : ByteArray)[k]'(by exact h13)).toNat : Int) == (c.toNat : Int)) = false := by
          rw [hel, beq_eq_false_iff_ne]
          intro e
          have e2 : ltb k = c := UInt8.toNat_inj.1 (by omega)
          simp [e2] at hq
        clear hq hn HF hel
        go_wp2
        go_round
        case rel => exact ⟨k + 1, by omega, by go_num, HF2⟩
        case measure => simp [intOf]; omega
      · have e2 : ltb k = c := by simpa using hq
        have HF2 := hid (lixI_hit (show lix ⟨#[c]⟩ = ((k : Int), true) by rw [← HF.out, hn, firstF_hit (by rw [pl_one]; exact hq)]))
        have hq4 : ((((⟨#[98, 109, 111, 115, 100, 102, 101, 70, 68, 83, 79, 77, 66]⟩ : ByteArray)[k]'(by exact h13)).toNat : Int) == (c.toNat : Int)) = true := by
          rw [hel, e2]; simp
        clear hq hn HF hel e2
        go_wp2
        go_ret
        exact ⟨by rw [HF2.out]; rfl, rfl⟩
    · obtain rfl : k = 13 := by omega
      have HF2 := hid (lixI_miss (show lix ⟨#[c]⟩ = (0, false) by rw [← HF.out]; rfl))
      go_wp2
      go_ret
      exact ⟨by rw [HF2.out]; rfl, rfl⟩
theorem bat_out {f t : Int} (h : btw 0 f 4 = false ∨ btw 0 t 4 = false) : batI f t = -1 := by
  rcases bat_cases f t with ⟨k, hk, h1, h2, _⟩ | ⟨_, hr⟩
  · exfalso
    rcases nat13 hk with rfl | rfl | rfl | rfl | rfl | rfl | rfl | rfl | rfl | rfl | rfl | rfl | rfl <;> (subst h1 h2; revert h; decide)
  · exact batI_miss hr
theorem btw4 {f : Int} (h : btw 0 f 4 = true) : f = 0 ∨ f = 1 ∨ f = 2 ∨ f = 3 ∨ f = 4 := by
  simp [btw] at h; omega
set_option maxHeartbeats 1000000 in
theorem l2Basic_any (f t : Int) (w : World) :
    Calls Tryd.prog 58 #[.int .i64 f, .int .i64 t] w fun e w' => e = .returned (.int .i64 (batI f t)) ∧ w = w' := by
  cases h1 : btw 0 f 4
  · have H1 := hid h1
    have HR := hid (bat_out (t := t) (.inl h1))
    clear h1
    have HS := AllLt.start w; go_enter Tryd.func58, Tryd.ntmps58
    go_wp2_with (first | (go_at_call 43; (with_reducible refine (l1In_any f 0 4 _).mono ?_); rintro e w' ⟨rfl, rfl⟩; rw [H1.out]))
    go_ret
    exact ⟨ret_int HR.out.symm, rfl⟩
  · cases h2 : btw 0 t 4
    · have H1 := hid h1
      have H2 := hid h2
      have HR := hid (bat_out (f := f) (.inr h2))
      clear h1 h2
      by_cases e : f = t
      · exfalso
        subst e
        exact Bool.noConfusion (H1.out.symm.trans H2.out)
      · have HS := AllLt.start w; go_enter Tryd.func58, Tryd.ntmps58
        go_wp2_with (first | (go_at_call 43; (with_reducible refine (l1In_any f 0 4 _).mono ?_); rintro e w' ⟨rfl, rfl⟩; rw [H1.out]) | (go_at_call 43; (with_reducible refine (l1In_any t 0 4 _).mono ?_); rintro e w' ⟨rfl, rfl⟩; rw [H2.out]))
        go_ret
        exact ⟨ret_int HR.out.symm, rfl⟩
    · have H1 := hid h1
      have H2 := hid h2
      rcases btw4 h1 with rfl | rfl | rfl | rfl | rfl <;> rcases btw4 h2 with rfl | rfl | rfl | rfl | rfl
      all_goals
        clear h1 h2
        have HS := AllLt.start w; go_enter Tryd.func58, Tryd.ntmps58
        go_wp2_with (first | (go_at_call 43; (with_reducible refine (l1In_any _ _ _ _).mono ?_); rintro e w' ⟨rfl, rfl⟩; simp only [H1.out, H2.out]))
        go_ret
        exact ⟨ret_int (by decide +kernel), rfl⟩
theorem ret_ii {k : IntKind} {a b a' b' : Int} (h0 : a = a') (h1 : b = b') : Ending.returned (.tuple #[.int k a, .int k b]) = .returned (.tuple #[.int k a', .int k b']) := by rw [h0, h1]
end Go.Proofs.YtnogdjmciekieaaDoor.C
