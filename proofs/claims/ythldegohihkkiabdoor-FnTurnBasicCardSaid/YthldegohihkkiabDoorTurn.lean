/- Walks over turned and mirrored basic relations. -/
import Derived.Test.YthldegohihkkiabDoorEnd
import Derived.Test.YthldegohihkkiabDoorTabS
namespace Go.Proofs.YthldegohihkkiabDoor.C
open Go.RowKit
set_option linter.unusedVariables false
set_option linter.unusedSimpArgs false
set_option maxHeartbeats 1000000 in
theorem where_turned (b : Nat) (hbb : b < 13) (w : World) (hT : TB w) :
    Calls Tryd.prog 115 #[.func (.func 140) #[.int .i64 b] #[]] w fun e w' => e = .returned (.tuple #[.int .i64 (firstF (pT b) 0 13).1, .bool (firstF (pT b) 0 13).2]) ∧ Below w.heap.size w w' := by
  have HT := hid hT
  clear hT
  have HS := AllLt.start w; go_enter Tryd.func115, Tryd.ntmps115
  go_wp2
  go_loopw [5] (fun v wr => ∃ k : Nat, k ≤ 13 ∧ v = .int .i64 k ∧ Hid (firstF (pT b) k (13 - k) = firstF (pT b) 0 13) ∧ Hid (Below w.heap.size w wr)) (fun v _ => 13 - (intOf v).toNat)
  case atStart => exact ⟨0, by omega, rfl, hid rfl, hid (Below.refl _ _)⟩
  case round =>
    obtain ⟨k, hk, rfl, HF, HB⟩ := hrel
    clear HS
    by_cases h13 : k < 13
    · obtain ⟨n, hn⟩ : ∃ n, 13 - k = n + 1 := ⟨12 - k, by omega⟩
      have hdi : decide ((k : Int) < 13) = true := by simp; omega
      cases hq : (pT b) k
      · have HF2 := hid (show firstF (pT b) (k + 1) (13 - (k + 1)) = firstF (pT b) 0 13 by rw [← HF.out, hn, firstF_miss hq]; congr 1; omega)
        have HQ := hid hq
        clear hn hq HF
        go_wp2_with (go_at_call 140; (with_reducible refine (isTurnOf_any b k hbb h13 _ (HT.out.below HB.out)).mono ?_); rintro e w' ⟨rfl, hb⟩; rw [HQ.out])
        go_roundw
        case rel => exact ⟨k + 1, by omega, by go_num, HF2, hid (HB.out.trans (hb.mono HB.out.size))⟩
        case measure => simp [intOf]; omega
      · have HF2 := hid (show firstF (pT b) 0 13 = ((k : Int), true) by rw [← HF.out, hn, firstF_hit hq])
        have HQ := hid hq
        clear hn hq HF
        go_wp2_with (go_at_call 140; (with_reducible refine (isTurnOf_any b k hbb h13 _ (HT.out.below HB.out)).mono ?_); rintro e w' ⟨rfl, hb⟩; rw [HQ.out])
        go_ret2
        exact ⟨by rw [HF2.out]; rfl, HB.out.trans (hb.mono HB.out.size)⟩
    · obtain rfl : k = 13 := by omega
      have hdi : decide (((13 : Nat) : Int) < 13) = false := by simp
      go_wp2
      go_ret2
      exact ⟨by rw [← HF.out]; rfl, HB.out⟩
theorem bturned_any (b : Nat) (hb : b < 13) (w : World) (hT : TB w) :
    Calls Tryd.prog 103 #[.int .i64 b] w fun e w' => e = .returned (.int .i64 ((12 - b : Nat) : Int)) ∧ Below w.heap.size w w' := by
  have HT := hid hT
  clear hT
  have HR := hid (pT_find hb)
  have HW := hid (where_turned b hb)
  generalize ((12 - b : Nat) : Int) = r at *
  clear hb
  have HS := AllLt.start w; go_enter Tryd.func103, Tryd.ntmps103
  go_wp2_with fail
  (with_reducible refine (HW.out _ HT.out).mono ?_)
  rintro e w' ⟨rfl, hb⟩
  simp only [HR.out]
  go_wp2
  go_ret
  exact ⟨rfl, hb⟩
theorem iTurnBasic_any (s : ByteArray) (w : World) (hT : TB w) :
    Calls Tryd.prog 41 #[.string s] w fun e w' => e = .returned (.string (tuS s)) ∧ Below w.heap.size w w' := by
  have HT := hid hT
  clear hT
  rcases lix_cases s with ⟨k, hk, he, hr⟩ | ⟨he, hr⟩
  all_goals
    clear he
    have HR := hid hr
    clear hr
    have HS := AllLt.start w; go_enter Tryd.func41, Tryd.ntmps41
    go_wp2_with fail
    (with_reducible refine (basicOfLetter_any s _ HT.out).mono ?_)
    rintro e w1 ⟨rfl, hb1⟩
    simp only [HR.out]
  · go_wp2_with fail
    (with_reducible refine (bturned_any k hk _ (HT.out.below hb1)).mono ?_)
    rintro e w2 ⟨rfl, hb2⟩
    go_wp2_with fail
    (with_reducible refine (letter_any (12 - k) (by omega) _ ((HT.out.below hb1).below hb2)).mono ?_)
    rintro e w3 ⟨rfl, rfl⟩
    go_wp2
    go_ret
    exact ⟨ret_str (tuS_hit HR.out).symm, hb1.trans (hb2.mono hb1.size)⟩
  · go_wp2
    go_ret
    exact ⟨ret_str (tuS_miss HR.out).symm, hb1⟩
set_option maxHeartbeats 1000000 in
theorem where_mirrored (b : Nat) (hbb : b < 13) (w : World) (hT : TB w) :
    Calls Tryd.prog 115 #[.func (.func 141) #[.int .i64 b] #[]] w fun e w' => e = .returned (.tuple #[.int .i64 (firstF (pM b) 0 13).1, .bool (firstF (pM b) 0 13).2]) ∧ Below w.heap.size w w' := by
  have HT := hid hT
  clear hT
  have HS := AllLt.start w; go_enter Tryd.func115, Tryd.ntmps115
  go_wp2
  go_loopw [5] (fun v wr => ∃ k : Nat, k ≤ 13 ∧ v = .int .i64 k ∧ Hid (firstF (pM b) k (13 - k) = firstF (pM b) 0 13) ∧ Hid (Below w.heap.size w wr)) (fun v _ => 13 - (intOf v).toNat)
  case atStart => exact ⟨0, by omega, rfl, hid rfl, hid (Below.refl _ _)⟩
  case round =>
    obtain ⟨k, hk, rfl, HF, HB⟩ := hrel
    clear HS
    by_cases h13 : k < 13
    · obtain ⟨n, hn⟩ : ∃ n, 13 - k = n + 1 := ⟨12 - k, by omega⟩
      have hdi : decide ((k : Int) < 13) = true := by simp; omega
      cases hq : (pM b) k
      · have HF2 := hid (show firstF (pM b) (k + 1) (13 - (k + 1)) = firstF (pM b) 0 13 by rw [← HF.out, hn, firstF_miss hq]; congr 1; omega)
        have HQ := hid hq
        clear hn hq HF
        go_wp2_with (go_at_call 141; (with_reducible refine (isMirrorOf_any b k hbb h13 _ (HT.out.below HB.out)).mono ?_); rintro e w' ⟨rfl, hb⟩; rw [HQ.out])
        go_roundw
        case rel => exact ⟨k + 1, by omega, by go_num, HF2, hid (HB.out.trans (hb.mono HB.out.size))⟩
        case measure => simp [intOf]; omega
      · have HF2 := hid (show firstF (pM b) 0 13 = ((k : Int), true) by rw [← HF.out, hn, firstF_hit hq])
        have HQ := hid hq
        clear hn hq HF
        go_wp2_with (go_at_call 141; (with_reducible refine (isMirrorOf_any b k hbb h13 _ (HT.out.below HB.out)).mono ?_); rintro e w' ⟨rfl, hb⟩; rw [HQ.out])
        go_ret2
        exact ⟨by rw [HF2.out]; rfl, HB.out.trans (hb.mono HB.out.size)⟩
    · obtain rfl : k = 13 := by omega
      have hdi : decide (((13 : Nat) : Int) < 13) = false := by simp
      go_wp2
      go_ret2
      exact ⟨by rw [← HF.out]; rfl, HB.out⟩
theorem bmirrored_any (b : Nat) (hb : b < 13) (w : World) (hT : TB w) :
    Calls Tryd.prog 105 #[.int .i64 b] w fun e w' => e = .returned (.int .i64 ((miN b : Nat) : Int)) ∧ Below w.heap.size w w' := by
  have HT := hid hT
  clear hT
  have HR := hid (pM_find hb)
  have HW := hid (where_mirrored b hb)
  generalize ((miN b : Nat) : Int) = r at *
  clear hb
  have HS := AllLt.start w; go_enter Tryd.func105, Tryd.ntmps105
  go_wp2_with fail
  (with_reducible refine (HW.out _ HT.out).mono ?_)
  rintro e w' ⟨rfl, hb⟩
  simp only [HR.out]
  go_wp2
  go_ret
  exact ⟨rfl, hb⟩
theorem iMirrorBasic_any (s : ByteArray) (w : World) (hT : TB w) :
    Calls Tryd.prog 42 #[.string s] w fun e w' => e = .returned (.string (miS s)) ∧ Below w.heap.size w w' := by
  have HT := hid hT
  clear hT
  rcases lix_cases s with ⟨k, hk, he, hr⟩ | ⟨he, hr⟩
  all_goals
    clear he
    have HR := hid hr
    clear hr
    have HS := AllLt.start w; go_enter Tryd.func42, Tryd.ntmps42
    go_wp2_with fail
    (with_reducible refine (basicOfLetter_any s _ HT.out).mono ?_)
    rintro e w1 ⟨rfl, hb1⟩
    simp only [HR.out]
  · go_wp2_with fail
    (with_reducible refine (bmirrored_any k hk _ (HT.out.below hb1)).mono ?_)
    rintro e w2 ⟨rfl, hb2⟩
    go_wp2_with fail
    (with_reducible refine (letter_any (miN k) (miN_lt hk) _ ((HT.out.below hb1).below hb2)).mono ?_)
    rintro e w3 ⟨rfl, rfl⟩
    go_wp2
    go_ret
    exact ⟨ret_str (miS_hit HR.out).symm, hb1.trans (hb2.mono hb1.size)⟩
  · go_wp2
    go_ret
    exact ⟨ret_str (miS_miss HR.out).symm, hb1⟩
theorem sTurnBasic_any (s : ByteArray) (w : World) (hs : s.size ≤ 9223372036854775807) :
    Calls Tryd.prog 54 #[.string s] w fun e w' => e = .returned (.string (tuS s)) ∧ w = w' := by
  rcases lix_cases s with ⟨k, hk, he, hr⟩ | ⟨he, hr⟩
  · clear he
    have HR := hid (And.intro (lixI_hit hr) (tuS_hit hr))
    clear hr
    have hsub : Hid ((12 : Int) - (k : Int) = ((12 - k : Nat) : Int)) := hid (by omega)
    have HS := AllLt.start w; go_enter Tryd.func54, Tryd.ntmps54
    go_wp2_with (first | (go_at_call 101; (with_reducible refine (l2Index_any s _ hs).mono ?_); rintro e w' ⟨rfl, rfl⟩; rw [HR.out.1]) | (go_at_call 78; rw [hsub.out]; (with_reducible refine (l2Letter_any (12 - k) (by omega) _).mono ?_); rintro e w' ⟨rfl, rfl⟩))
    go_ret
    exact ⟨ret_str HR.out.2.symm, rfl⟩
  · clear he
    have HR := hid (And.intro (lixI_miss hr) (tuS_miss hr))
    clear hr
    have HS := AllLt.start w; go_enter Tryd.func54, Tryd.ntmps54
    go_wp2_with (first | (go_at_call 101; (with_reducible refine (l2Index_any s _ hs).mono ?_); rintro e w' ⟨rfl, rfl⟩; rw [HR.out.1]))
    go_ret
    exact ⟨ret_str HR.out.2.symm, rfl⟩
theorem l2Mirror_any (k : Nat) (hk : k < 13) (w : World) :
    Calls Tryd.prog 112 #[.int .i64 k] w fun e w' => e = .returned (.int .i64 ((miN k : Nat) : Int)) ∧ ∃ n, w' = w.drewN n := by
  rcases nat13 hk with rfl | rfl | rfl | rfl | rfl | rfl | rfl | rfl | rfl | rfl | rfl | rfl | rfl
  all_goals
    clear hk
    have HS := AllLt.start w; go_enter Tryd.func112, Tryd.ntmps112
    go_wp2_with (first | (go_at_call 134; (with_reducible refine (l2Basic_any _ _ _).mono ?_); rintro e w' ⟨rfl, rfl⟩))
    try go_quiet (first | (go_at_call 134; exact Calls.quiet_of_same ((l2Basic_any _ _ _).mono fun _ _ ⟨a, b⟩ => ⟨a, b.symm⟩)))
    go_wp2
    go_ret
    exact ⟨ret_int (by decide +kernel), by first | exact ⟨0, rfl⟩ | exact ⟨_, rfl⟩⟩
theorem sMirrorBasic_any (s : ByteArray) (w : World) (hs : s.size ≤ 9223372036854775807) :
    Calls Tryd.prog 55 #[.string s] w fun e w' => e = .returned (.string (miS s)) ∧ ∃ n, w' = w.drewN n := by
  rcases lix_cases s with ⟨k, hk, he, hr⟩ | ⟨he, hr⟩
  · clear he
    have HR := hid (And.intro (lixI_hit hr) (miS_hit hr))
    clear hr
    have HS := AllLt.start w; go_enter Tryd.func55, Tryd.ntmps55
    go_wp2_with (first | (go_at_call 101; (with_reducible refine (l2Index_any s _ hs).mono ?_); rintro e w' ⟨rfl, rfl⟩; rw [HR.out.1]) | (go_at_call 112; (with_reducible refine (l2Mirror_any k hk _).mono ?_); rintro e w' ⟨rfl, n, rfl⟩) | (go_at_call 78; (with_reducible refine (l2Letter_any (miN k) (miN_lt hk) _).mono ?_); rintro e w' ⟨rfl, rfl⟩))
    go_ret
    exact ⟨ret_str HR.out.2.symm, _, rfl⟩
  · clear he
    have HR := hid (And.intro (lixI_miss hr) (miS_miss hr))
    clear hr
    have HS := AllLt.start w; go_enter Tryd.func55, Tryd.ntmps55
    go_wp2_with (first | (go_at_call 101; (with_reducible refine (l2Index_any s _ hs).mono ?_); rintro e w' ⟨rfl, rfl⟩; rw [HR.out.1]))
    go_ret
    exact ⟨ret_str HR.out.2.symm, 0, rfl⟩
end Go.Proofs.YthldegohihkkiabDoor.C
