/- The letters of a relation: the program's text and the model's. -/
import Derived.Test.YtholffjadnaloaaDoorRelU
import Derived.Test.YtholffjadnaloaaDoorBuilder
namespace Go.Proofs.YtholffjadnaloaaDoor.C
open Go.RowKit
set_option linter.unusedVariables false
set_option linter.unusedSimpArgs false
theorem bytes_app (a b : List UInt8) : (⟨a.toArray⟩ : ByteArray) ++ ⟨b.toArray⟩ = ⟨(a ++ b).toArray⟩ := by
  apply ByteArray.ext
  simp [ByteArray.data_append]
theorem lts_step {n k : Nat} (h : n.testBit k = true) : (⟨(ltsF n k).toArray⟩ : ByteArray) ++ ltr k = ⟨(ltsF n (k + 1)).toArray⟩ := by
  rw [ltsF_hit h, ← bytes_app]; rfl
theorem ltsF_nil {n : Nat} : ∀ {k : Nat}, ltsF n k = [] ↔ ∀ j, j < k → n.testBit j = false
  | 0 => by simp [ltsF]
  | k + 1 => by
    cases h : n.testBit k
    · rw [ltsF_miss h, ltsF_nil]
      constructor
      · intro H j hj
        by_cases e : j = k
        · rw [e]; exact h
        · exact H j (by omega)
      · intro H j hj; exact H j (by omega)
    · rw [ltsF_hit h]
      constructor
      · intro H; simp at H
      · intro H; have := H k (by omega); rw [h] at this; cases this
theorem lts_zero {n : Nat} (hn : n < 8192) (h : ltsF n 13 = []) : n = 0 :=
  set_ext hn (by decide) fun j hj => by rw [ltsF_nil.1 h j hj]; simp
set_option maxHeartbeats 2000000 in
theorem rtext_any (n : Nat) (hn : n < 8192) (w : World) (hT : TB w) :
    Calls Tryd.prog 78 #[.int .i64 n] w fun e w' => e = .returned (.string ⟨(ltsN n).toArray⟩) ∧ Below w.heap.size w w' := by
  have HT := hid hT
  clear hT
  by_cases h0 : n = 0
  · subst h0
    have HS := AllLt.start w; go_enter Tryd.func78, Tryd.ntmps78
    go_wp2
    go_ret
    exact ⟨rfl, Below.refl _ _⟩
  · have hne : ((n : Int) == 0) = false := by simp; omega
    have HL := hid (show ltsN n = ltsF n 13 by simp [ltsN, h0])
    have hb0 := hid (Bw.start w w (Below.refl _ _))
    have HS := AllLt.start w; go_enter Tryd.func78, Tryd.ntmps78
    go_wp2
    go_loopw [7] (fun v wr => ∃ k : Nat, k ≤ 13 ∧ v = .int .i64 k ∧ Hid (Bw w w.heap.size (ltsF n k) wr)) (fun v _ => 13 - (intOf v).toNat)
    case atStart => exact ⟨0, by omega, rfl, hb0⟩
    case round =>
      obtain ⟨k, hk, rfl, HB⟩ := hrel
      clear HS
      by_cases h13 : k < 13
      · have hdi : decide ((k : Int) < 13) = true := by simp; omega
        cases hq : n.testBit k
        · have HF := hid (ltsF_miss hq)
          have HQ := hid hq
          clear hq
          go_wp2_with (first | (go_at_call 124; (with_reducible refine (rhas_any n k hn h13 _).mono ?_); rintro e w' ⟨rfl, rfl⟩; rw [HQ.out]))
          go_roundw
          case rel => exact ⟨k + 1, by omega, by go_num, hid (by rw [HF.out]; exact HB.out)⟩
          case measure => simp [intOf]; omega
        · have HF := hid (ltsF_hit hq)
          have HQ := hid hq
          have hlen : (ltsF n k).length + (ltr k).size ≤ 140737488355328 := by
            have := ltsF_len n k
            show (ltsF n k).length + 1 ≤ _
            omega
          clear hq
          go_wp2_with (first | (go_at_call 124; (with_reducible refine (rhas_any n k hn h13 _).mono ?_); rintro e w' ⟨rfl, rfl⟩; rw [HQ.out]) | (go_at_call 125; (with_reducible refine (letter_any k h13 _ (HT.out.below HB.out.below)).mono ?_); rintro e w' ⟨rfl, rfl⟩) | (go_at_call 106; (with_reducible refine (WriteString_w w _ _ _ _ HB.out hlen).mono ?_); rintro e w' ⟨rfl, hb⟩))
          go_roundw
          case rel => exact ⟨k + 1, by omega, by go_num, hid (by rw [HF.out]; exact hb)⟩
          case measure => simp [intOf]; omega
      · obtain rfl : k = 13 := by omega
        have hdi : decide (((13 : Nat) : Int) < 13) = false := by simp
        go_wp2_with (first | (go_at_call 108; (with_reducible refine (String_w w _ _ _ HB.out).mono ?_); rintro e w' ⟨rfl, hb⟩))
        go_ret
        exact ⟨ret_str (congrArg (fun l : List UInt8 => (⟨l.toArray⟩ : ByteArray)) HL.out.symm), hb⟩
set_option maxHeartbeats 1000000 in
theorem sFormatRel_any (r : Int) (w : World) :
    Calls Tryd.prog 139 #[.int .i64 r] w fun e w' => e = .returned (.string (fmS r)) ∧ w = w' := by
  rcases rv_cases r with h | ⟨n, hn, rfl⟩
  · have H := hid h
    clear h
    have HS := AllLt.start w; go_enter Tryd.func139, Tryd.ntmps139
    go_wp2_with (first | (go_at_call 84; (with_reducible refine (sRelValid_any r _).mono ?_); rintro e w' ⟨rfl, rfl⟩; rw [H.out]))
    go_ret
    exact ⟨ret_str (fmS_off H.out).symm, rfl⟩
  · have H := hid (rv_nat n hn)
    have HS := AllLt.start w; go_enter Tryd.func139, Tryd.ntmps139
    go_wp2_with (first | (go_at_call 84; (with_reducible refine (sRelValid_any _ _).mono ?_); rintro e w' ⟨rfl, rfl⟩; rw [H.out]))
    go_loop [3, 4] (fun acc v => ∃ k : Nat, k ≤ 13 ∧ v = .int .i64 k ∧ acc = .string ⟨(ltsF n k).toArray⟩) (fun _ v => 13 - (intOf v).toNat)
    case atStart => exact ⟨0, by omega, rfl, rfl⟩
    case round =>
      obtain ⟨k, hk, rfl, rfl⟩ := hrel
      clear HS
      by_cases h13 : k < 13
      · have hdi : decide ((k : Int) < 13) = true := by simp; omega
        cases hq : n.testBit k
        · have HF := hid (ltsF_miss hq)
          have HQ := hid hq
          clear hq
          go_wp2_with (first | (go_at_call 96; (with_reducible refine (l3Has_any n k hn h13 _).mono ?_); rintro e w' ⟨rfl, rfl⟩; rw [HQ.out]))
          go_round
          case rel => exact ⟨k + 1, by omega, by go_num, by rw [HF.out]⟩
          case measure => simp [intOf]; omega
        · have HF := hid (lts_step hq)
          have HQ := hid hq
          have hlen := ltsF_len n k
          have hl1 : (ltr k).size = 1 := rfl
          clear hq
          go_wp2_with (first | (go_at_call 96; (with_reducible refine (l3Has_any n k hn h13 _).mono ?_); rintro e w' ⟨rfl, rfl⟩; rw [HQ.out]) | (go_at_call 163; (with_reducible refine (l2Letter_any k h13 _).mono ?_); rintro e w' ⟨rfl, rfl⟩))
          go_round
          case rel => exact ⟨k + 1, by omega, by go_num, by rw [← HF.out]⟩
          case measure => simp [intOf]; omega
      · obtain rfl : k = 13 := by omega
        have hdi : decide (((13 : Nat) : Int) < 13) = false := by simp
        by_cases h0 : n = 0
        · subst h0
          go_wp2
          go_ret
          exact ⟨ret_str (by decide +kernel), rfl⟩
        · have HL := hid (show fmS n = ⟨(ltsF n 13).toArray⟩ by rw [fmS_on hn]; simp [ltsN, h0])
          have he : (ltsF n 13).isEmpty = false := by
            cases hl : ltsF n 13 with
            | nil => exact absurd (lts_zero hn hl) h0
            | cons a l => rfl
          go_wp2
          go_ret
          exact ⟨ret_str HL.out.symm, rfl⟩
end Go.Proofs.YtholffjadnaloaaDoor.C
