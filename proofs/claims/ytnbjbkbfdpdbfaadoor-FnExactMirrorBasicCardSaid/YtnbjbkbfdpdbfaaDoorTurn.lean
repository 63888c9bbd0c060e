/- Walks over turned and mirrored basic relations. -/
import Derived.Test.YtnbjbkbfdpdbfaaDoorEnd
import Derived.Test.YtnbjbkbfdpdbfaaDoorTabS
namespace Go.Proofs.YtnbjbkbfdpdbfaaDoor.C
open Go.RowKit
set_option linter.unusedVariables false
set_option linter.unusedSimpArgs false
set_option maxHeartbeats 1000000 in
theorem where_turned (b : Nat) (hbb : b < 13) (w : World) (hT : TB w) :
    Calls Tryd.prog 59 #[.func (.func 81) #[.int .i64 b] #[]] w fun e w' => e = .returned (.tuple #[.int .i64 (firstF (pT b) 0 13).1, .bool (firstF (pT b) 0 13).2]) ∧ Below w.heap.size w w' := by
  have HT := hid hT
  clear hT
  have HS := AllLt.start w; go_enter Tryd.func59, Tryd.ntmps59
  go_wp2
  go_loopw [5] (fun v wr => ∃ k : Nat, k ≤ 13 ∧ v = .int .i64 k ∧ Hid (firstF (pT b) k (13 - k) = firstF (pT b) 0 13) ∧ Hid (Below w.heap.size w wr)) (fun v _ => 13 - (intOf v).toNat)
  case atStart => exact ⟨0, by omega, rfl, hid rfl, hid (Below.refl _ _)⟩
  case round =>
    obtain ⟨k, hk, rfl, HF, HB⟩ := hrel
    clear HS
    by_cases h13 : k < 13
    · obtain ⟨n, hn⟩ : ∃ n, 13 - k = n + 1 := ⟨12 - k, by omega⟩
      have hdi : decide ((k : Int) < 13) = true := by simp; omega
      cases hq : (pT b) k
      · have HF2 := hid (show firstF (pT b) (k + 1) (13 - (k + 1)) = firstF (pT b) 0 13 by rw [← HF.out, hn, firstF_miss hq]; congr 1; omega)
        have HQ := hid hq
        clear hn hq HF
        go_wp2_with (go_at_call 81; (with_reducible refine (isTurnOf_any b k hbb h13 _ (HT.out.below HB.out)).mono ?_); rintro e w' ⟨rfl, hb⟩; rw [HQ.out])
        go_roundw
        case rel => exact ⟨k + 1, by omega, by go_num, HF2, hid (HB.out.trans (hb.mono HB.out.size))⟩
        case measure => simp [intOf]; omega
      · have HF2 := hid (show firstF (pT b) 0 13 = ((k : Int), true) by rw [← HF.out, hn, firstF_hit hq])
        have HQ := hid hq
        clear hn hq HF
        go_wp2_with (go_at_call 81; (with_reducible refine (isTurnOf_any b k hbb h13 _ (HT.out.below HB.out)).mono ?_); rintro e w' ⟨rfl, hb⟩; rw [HQ.out])
        go_ret2
        exact ⟨by rw [HF2.out]; rfl, HB.out.trans (hb.mono HB.out.size)⟩
    · obtain rfl : k = 13 := by omega
      have hdi : decide (((13 : Nat) : Int) < 13) = false := by simp
      go_wp2
      go_ret2
      exact ⟨by rw [← HF.out]; rfl, HB.out⟩
theorem bturned_any (b : Nat) (hb : b < 13) (w : World) (hT : TB w) :
    Calls Tryd.prog 56 #[.int .i64 b] w fun e w' => e = .returned (.int .i64 ((12 - b : Nat) : Int)) ∧ Below w.heap.size w w' := by
  have HT := hid hT
  clear hT
  have HR := hid (pT_find hb)
  have HW := hid (where_turned b hb)
  generalize ((12 - b : Nat) : Int) = r at *
  clear hb
  have HS := AllLt.start w; go_enter Tryd.func56, Tryd.ntmps56
  go_wp2_with fail
  (with_reducible refine (HW.out _ HT.out).mono ?_)
  rintro e w' ⟨rfl, hb⟩
  simp only [HR.out]
  go_wp2
  go_ret
  exact ⟨rfl, hb⟩
theorem iTurnBasic_any (s : ByteArray) (w : World) (hT : TB w) :
    Calls Tryd.prog 21 #[.string s] w fun e w' => e = .returned (.string (tuS s)) ∧ Below w.heap.size w w' := by
  have HT := hid hT
  clear hT
  rcases lix_cases s with ⟨k, hk, he, hr⟩ | ⟨he, hr⟩
  all_goals
    clear he
    have HR := hid hr
    clear hr
    have HS := AllLt.start w; go_enter Tryd.func21, Tryd.ntmps21
    go_wp2_with fail
    (with_reducible refine (basicOfLetter_any s _ HT.out).mono ?_)
    rintro e w1 ⟨rfl, hb1⟩
    simp only [HR.out]
  · go_wp2_with fail
    (with_reducible refine (bturned_any k hk _ (HT.out.below hb1)).mono ?_)
    rintro e w2 ⟨rfl, hb2⟩
    go_wp2_with fail
    (with_reducible refine (letter_any (12 - k) (by omega) _ ((HT.out.below hb1).below hb2)).mono ?_)
    rintro e w3 ⟨rfl, rfl⟩
    go_wp2
    go_ret
    exact ⟨ret_str (tuS_hit HR.out).symm, hb1.trans (hb2.mono hb1.size)⟩
  · go_wp2
    go_ret
    exact ⟨ret_str (tuS_miss HR.out).symm, hb1⟩
set_option maxHeartbeats 1000000 in
theorem where_mirrored (b : Nat) (hbb : b < 13) (w : World) (hT : TB w) :
    Calls Tryd.prog 59 #[.func (.func 82) #[.int .i64 b] #[]] w fun e w' => e = .returned (.tuple #[.int .i64 (firstF (pM b) 0 13).1, .bool (firstF (pM b) 0 13).2]) ∧ Below w.heap.size w w' := by
  have HT := hid hT
  clear hT
  have HS := AllLt.start w; go_enter Tryd.func59, Tryd.ntmps59
  go_wp2
  go_loopw [5] (fun v wr => ∃ k : Nat, k ≤ 13 ∧ v = .int .i64 k ∧ Hid (firstF (pM b) k (13 - k) = firstF (pM b) 0 13) ∧ Hid (Below w.heap.size w wr)) (fun v _ => 13 - (intOf v).toNat)
  case atStart => exact ⟨0, by omega, rfl, hid rfl, hid (Below.refl _ _)⟩
  case round =>
    obtain ⟨k, hk, rfl, HF, HB⟩ := hrel
    clear HS
    by_cases h13 : k < 13
    · obtain ⟨n, hn⟩ : ∃ n, 13 - k = n + 1 := ⟨12 - k, by omega⟩
      have hdi : decide ((k : Int) < 13) = true := by simp; omega
      cases hq : (pM b) k
      · have HF2 := hid (show firstF (pM b) (k + 1) (13 - (k + 1)) = firstF (pM b) 0 13 by rw [← HF.out, hn, firstF_miss hq]; congr 1; omega)
        have HQ := hid hq
        clear hn hq HF
        go_wp2_with (go_at_call 82; (with_reducible refine (isMirrorOf_any b k hbb h13 _ (HT.out.below HB.out)).mono ?_); rintro e w' ⟨rfl, hb⟩; rw [HQ.out])
        go_roundw
        case rel => exact ⟨k + 1, by omega, by go_num, HF2, hid (HB.out.trans (hb.mono HB.out.size))⟩
        case measure => simp [intOf]; omega
      · have HF2 := hid (show firstF (pM b) 0 13 = ((k : Int), true) by rw [← HF.out, hn, firstF_hit hq])
        have HQ := hid hq
        clear hn hq HF
        go_wp2_with (go_at_call 82; (with_reducible refine (isMirrorOf_any b k hbb h13 _ (HT.out.below HB.out)).mono ?_); rintro e w' ⟨rfl, hb⟩; rw [HQ.out])
        go_ret2
        exact ⟨by rw [HF2.out]; rfl, HB.out.trans (hb.mono HB.out.size)⟩
    · obtain rfl : k = 13 := by omega
      have hdi : decide (((13 : Nat) : Int) < 13) = false := by simp
      go_wp2
      go_ret2
      exact ⟨by rw [← HF.out]; rfl, HB.out⟩
theorem bmirrored_any (b : Nat) (hb : b < 13) (w : World) (hT : TB w) :
    Calls Tryd.prog 58 #[.int .i64 b] w fun e w' => e = .returned (.int .i64 ((miN b : Nat) : Int)) ∧ Below w.heap.size w w' := by
  have HT := hid hT
  clear hT
  have HR := hid (pM_find hb)
  have HW := hid (where_mirrored b hb)
  generalize ((miN b : Nat) : Int) = r at *
  clear hb
  have HS := AllLt.start w; go_enter Tryd.func58, Tryd.ntmps58
  go_wp2_with fail
  (with_reducible refine (HW.out _ HT.out).mono ?_)
  rintro e w' ⟨rfl, hb⟩
  simp only [HR.out]
  go_wp2
  go_ret
  exact ⟨rfl, hb⟩
theorem iMirrorBasic_any (s : ByteArray) (w : World) (hT : TB w) :
    Calls Tryd.prog 22 #[.string s] w fun e w' => e = .returned (.string (miS s)) ∧ Below w.heap.size w w' := by
  have HT := hid hT
  clear hT
  rcases lix_cases s with ⟨k, hk, he, hr⟩ | ⟨he, hr⟩
  all_goals
    clear he
    have HR := hid hr
    clear hr
    have HS := AllLt.start w; go_enter Tryd.func22, Tryd.ntmps22
    go_wp2_with fail
    (with_reducible refine (basicOfLetter_any s _ HT.out).mono ?_)
    rintro e w1 ⟨rfl, hb1⟩
    simp only [HR.out]
  · go_wp2_with fail
    (with_reducible refine (bmirrored_any k hk _ (HT.out.below hb1)).mono ?_)
    rintro e w2 ⟨rfl, hb2⟩
    go_wp2_with fail
    (with_reducible refine (letter_any (miN k) (miN_lt hk) _ ((HT.out.below hb1).below hb2)).mono ?_)
    rintro e w3 ⟨rfl, rfl⟩
    go_wp2
    go_ret
    exact ⟨ret_str (miS_hit HR.out).symm, hb1.trans (hb2.mono hb1.size)⟩
  · go_wp2
    go_ret
    exact ⟨ret_str (miS_miss HR.out).symm, hb1⟩
theorem sTurnBasic_any (s : ByteArray) (w : World) (hs : s.size ≤ 9223372036854775807) :
    Calls Tryd.prog 33 #[.string s] w fun e w' => e = .returned (.string (tuS s)) ∧ w = w' := by
  rcases lix_cases s with ⟨k, hk, he, hr⟩ | ⟨he, hr⟩
  · clear he
    have HR := hid (And.intro (lixI_hit hr) (tuS_hit hr))
    clear hr
    have hsub : Hid ((12 : Int) - (k : Int) = ((12 - k : Nat) : Int)) := hid (by omega)
    have HS := AllLt.start w; go_enter Tryd.func33, Tryd.ntmps33
    go_wp2_with (first | (go_at_call 73; (with_reducible refine (l2Index_any s _ hs).mono ?_); rintro e w' ⟨rfl, rfl⟩; rw [HR.out.1]) | (go_at_call 49; rw [hsub.out]; (with_reducible refine (l2Letter_any (12 - k) (by omega) _).mono ?_); rintro e w' ⟨rfl, rfl⟩))
    go_ret
    exact ⟨ret_str HR.out.2.symm, rfl⟩
  · clear he
    have HR := hid (And.intro (lixI_miss hr) (tuS_miss hr))
    clear hr
    have HS := AllLt.start w; go_enter Tryd.func33, Tryd.ntmps33
    go_wp2_with (first | (go_at_call 73; (with_reducible refine (l2Index_any s _ hs).mono ?_); rintro e w' ⟨rfl, rfl⟩; rw [HR.out.1]))
    go_ret
    exact ⟨ret_str HR.out.2.symm, rfl⟩
theorem l2Mirror_any (k : Nat) (hk : k < 13) (w : World) :
    Calls Tryd.prog 74 #[.int .i64 k] w fun e w' => e = .returned (.int .i64 ((miN k : Nat) : Int)) ∧ ∃ n, w' = w.drewN n := by
  rcases nat13 hk with rfl | rfl | rfl | rfl | rfl | rfl | rfl | rfl | rfl | rfl | rfl | rfl | rfl
  all_goals
    clear hk
    have HS := AllLt.start w; go_enter Tryd.func74, Tryd.ntmps74
    go_wp2_with (first | (go_at_call 77; (with_reducible refine (l2Basic_any _ _ _).mono ?_); rintro e w' ⟨rfl, rfl⟩))
    try go_quiet (first | (go_at_call 77; exact Calls.quiet_of_same ((l2Basic_any _ _ _).mono fun _ _ ⟨a, b⟩ => ⟨a, b.symm⟩)))
    go_wp2
    go_ret
    exact ⟨ret_int (by decide +kernel), by first | exact ⟨0, rfl⟩ | exact ⟨_, rfl⟩⟩
theorem sMirrorBasic_any (s : ByteArray) (w : World) (hs : s.size ≤ 9223372036854775807) :
    Calls Tryd.prog 34 #[.string s] w fun e w' => e = .returned (.string (miS s)) ∧ ∃ n, w' = w.drewN n := by
  rcases lix_cases s with ⟨k, hk, he, hr⟩ | ⟨he, hr⟩
  · clear he
    have HR := hid (And.intro (lixI_hit hr) (miS_hit hr))
    clear hr
    have HS := AllLt.start w; go_enter Tryd.func34, Tryd.ntmps34
    go_wp2_with (first | (go_at_call 73; (with_reducible refine (l2Index_any s _ hs).mono ?_); rintro e w' ⟨rfl, rfl⟩; rw [HR.out.1]) | (go_at_call 74; (with_reducible refine (l2Mirror_any k hk _).mono ?_); rintro e w' ⟨rfl, n, rfl⟩) | (go_at_call 49; (with_reducible refine (l2Letter_any (miN k) (miN_lt hk) _).mono ?_); rintro e w' ⟨rfl, rfl⟩))
    go_ret
    exact ⟨ret_str HR.out.2.symm, _, rfl⟩
  · clear he
    have HR := hid (And.intro (lixI_miss hr) (miS_miss hr))
    clear hr
    have HS := AllLt.start w; go_enter Tryd.func34, Tryd.ntmps34
    go_wp2_with (first | (go_at_call 73; (with_reducible refine (l2Index_any s _ hs).mono ?_); rintro e w' ⟨rfl, rfl⟩; rw [HR.out.1]))
    go_ret
    exact ⟨ret_str HR.out.2.symm, 0, rfl⟩
theorem walk_FnExactTurnBasic (a0 : ByteArray) (w : World) (w0 : a0.size ≤ maxLen) (hB : TB w) :
    Calls Tryd.prog 11 #[.string a0] w fun e w' => e = .returned (.bool true) ∧ Below w.heap.size w w' := by
  have HB := hid hB
  clear hB
  unfold maxLen at w0
  have hsame := same_t (Eq.refl (tuS a0))
  by_cases hl : a0.size ≤ 1048576
  · have hd : decide ((1048576 : Int) < (a0.size : Int)) = false := by simp; omega
    have HS := AllLt.start w; go_enter Tryd.func11, Tryd.ntmps11
    go_wp2_with (first | (go_at_call 33; (with_reducible refine (sTurnBasic_any a0 _ (by omega)).mono ?_); rintro e w' ⟨rfl, rfl⟩) | (go_at_call 21; (with_reducible refine (iTurnBasic_any a0 _ HB.out).mono ?_); rintro e w' ⟨rfl, hb⟩))
    go_ret
    exact ⟨rfl, by exact hb⟩
  · have hd : decide ((1048576 : Int) < (a0.size : Int)) = true := by simp; omega
    have HS := AllLt.start w; go_enter Tryd.func11, Tryd.ntmps11
    go_wp2
    go_ret
    exact ⟨rfl, Below.refl _ _⟩
theorem walk_FnExactMirrorBasic (a0 : ByteArray) (w : World) (w0 : a0.size ≤ maxLen) (hB : TB w) :
    Calls Tryd.prog 12 #[.string a0] w fun e w' => e = .returned (.bool true) ∧ Below w.heap.size w w' := by
  have HB := hid hB
  clear hB
  unfold maxLen at w0
  have hsame := same_t (Eq.refl (miS a0))
  by_cases hl : a0.size ≤ 1048576
  · have hd : decide ((1048576 : Int) < (a0.size : Int)) = false := by simp; omega
    have HS := AllLt.start w; go_enter Tryd.func12, Tryd.ntmps12
    go_wp2_with (first | (go_at_call 34; (with_reducible refine (sMirrorBasic_any a0 _ (by omega)).mono ?_); rintro e w' ⟨rfl, n, rfl⟩) | (go_at_call 22; (with_reducible refine (iMirrorBasic_any a0 _ (HB.out.drewN _)).mono ?_); rintro e w' ⟨rfl, hb⟩))
    go_ret
    exact ⟨rfl, by exact (below_drewN _ _ _).trans hb⟩
  · have hd : decide ((1048576 : Int) < (a0.size : Int)) = true := by simp; omega
    have HS := AllLt.start w; go_enter Tryd.func12, Tryd.ntmps12
    go_wp2
    go_ret
    exact ⟨rfl, Below.refl _ _⟩
end Go.Proofs.YtnbjbkbfdpdbfaaDoor.C
