/- The letters of a relation: the program's text and the model's. -/
import Derived.Test.YtlmmjdaipedjjaaGreatDoorRelU
import Derived.Test.YtlmmjdaipedjjaaGreatDoorBuilder
namespace Go.Proofs.YtlmmjdaipedjjaaGreatDoor.C
open Go.RowKit
set_option linter.unusedVariables false
set_option linter.unusedSimpArgs false
theorem bytes_app (a b : List UInt8) : (⟨a.toArray⟩ : ByteArray) ++ ⟨b.toArray⟩ = ⟨(a ++ b).toArray⟩ := by
  apply ByteArray.ext
  simp [ByteArray.data_append]
theorem lts_step {n k : Nat} (h : n.testBit k = true) : (⟨(ltsF n k).toArray⟩ : ByteArray) ++ ltr k = ⟨(ltsF n (k + 1)).toArray⟩ := by
  rw [ltsF_hit h, ← bytes_app]; rfl
theorem ltsF_nil {n : Nat} : ∀ {k : Nat}, ltsF n k = [] ↔ ∀ j, j < k → n.testBit j = false
  | 0 => by simp [ltsF]
  | k + 1 => by
    cases h : n.testBit k
    · rw [ltsF_miss h, ltsF_nil]
      constructor
      · intro H j hj
        by_cases e : j = k
        · rw [e]; exact h
        · exact H j (by omega)
      · intro H j hj; exact H j (by omega)
    · rw [ltsF_hit h]
      constructor
      · intro H; simp at H
      · intro H; have := H k (by omega); rw [h] at this; cases this
theorem lts_zero {n : Nat} (hn : n < 8192) (h : ltsF n 13 = []) : n = 0 :=
  set_ext hn (by decide) fun j hj => by rw [ltsF_nil.1 h j hj]; simp
set_option maxHeartbeats 1000000 in
theorem sFormatRel_any (r : Int) (w : World) :
    Calls Tryz.prog 48 #[.int .i64 r] w fun e w' => e = .returned (.string (fmS r)) ∧ w = w' := by
  rcases rv_cases r with h | ⟨n, hn, rfl⟩
  · have H := hid h
    clear h
    have HS := AllLt.start w; go_enter Tryz.func48, Tryz.ntmps48
    go_wp2_with (first | (go_at_call 14; (with_reducible refine (sRelValid_any r _).mono ?_); rintro e w' ⟨rfl, rfl⟩; rw [H.out]))
    go_ret
    exact ⟨ret_str (fmS_off H.out).symm, rfl⟩
  · have H := hid (rv_nat n hn)
    have HS := AllLt.start w; go_enter Tryz.func48, Tryz.ntmps48
    go_wp2_with (first | (go_at_call 14; (with_reducible refine (sRelValid_any _ _).mono ?_); rintro e w' ⟨rfl, rfl⟩; rw [H.out]))
    go_loop [3, 4] (fun acc v => ∃ k : Nat, k ≤ 13 ∧ v = .int .i64 k ∧ acc = .string ⟨(ltsF n k).toArray⟩) (fun _ v => 13 - (intOf v).toNat)
    case atStart => exact ⟨0, by omega, rfl, rfl⟩
    case round =>
      obtain ⟨k, hk, rfl, rfl⟩ := hrel
      clear HS
      by_cases h13 : k < 13
      · have hdi : decide ((k : Int) < 13) = true := by simp; omega
        cases hq : n.testBit k
        · have HF := hid (ltsF_miss hq)
          have HQ := hid hq
          clear hq
          go_wp2_with (first | (go_at_call 45; (with_reducible refine (l3Has_any n k hn h13 _).mono ?_); rintro e w' ⟨rfl, rfl⟩; rw [HQ.out]))
          go_round
          case rel => exact ⟨k + 1, by omega, by go_num, by rw [HF.out]⟩
          case measure => simp [intOf]; omega
        · have HF := hid (lts_step hq)
          have HQ := hid hq
          have hlen := ltsF_len n k
          have hl1 : (ltr k).size = 1 := rfl
          clear hq
          go_wp2_with (first | (go_at_call 45; (with_reducible refine (l3Has_any n k hn h13 _).mono ?_); rintro e w' ⟨rfl, rfl⟩; rw [HQ.out]) | (go_at_call 64; (with_reducible refine (l2Letter_any k h13 _).mono ?_); rintro e w' ⟨rfl, rfl⟩))
          go_round
          case rel => exact ⟨k + 1, by omega, by go_num, by rw [← HF.out]⟩
          case measure => simp [intOf]; omega
      · obtain rfl : k = 13 := by omega
        have hdi : decide (((13 : Nat) : Int) < 13) = false := by simp
        by_cases h0 : n = 0
        · subst h0
          go_wp2
          go_ret
          exact ⟨ret_str (by decide +kernel), rfl⟩
        · have HL := hid (show fmS n = ⟨(ltsF n 13).toArray⟩ by rw [fmS_on hn]; simp [ltsN, h0])
          have he : (ltsF n 13).isEmpty = false := by
            cases hl : ltsF n 13 with
            | nil => exact absurd (lts_zero hn hl) h0
            | cons a l => rfl
          go_wp2
          go_ret
          exact ⟨ret_str HL.out.symm, rfl⟩
end Go.Proofs.YtlmmjdaipedjjaaGreatDoor.C
