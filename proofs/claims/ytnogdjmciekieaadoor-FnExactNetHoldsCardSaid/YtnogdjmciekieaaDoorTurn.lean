/- Walks over turned and mirrored basic relations. -/
import Derived.Test.YtnogdjmciekieaaDoorEnd
import Derived.Test.YtnogdjmciekieaaDoorTabS
namespace Go.Proofs.YtnogdjmciekieaaDoor.C
open Go.RowKit
set_option linter.unusedVariables false
set_option linter.unusedSimpArgs false
set_option maxHeartbeats 1000000 in
theorem where_turned (b : Nat) (hbb : b < 13) (w : World) (hT : TB w) :
    Calls Tryd.prog 90 #[.func (.func 129) #[.int .i64 b] #[]] w fun e w' => e = .returned (.tuple #[.int .i64 (firstF (pT b) 0 13).1, .bool (firstF (pT b) 0 13).2]) ∧ Below w.heap.size w w' := by
  have HT := hid hT
  clear hT
  have HS := AllLt.start w; go_enter Tryd.func90, Tryd.ntmps90
  go_wp2
  go_loopw [5] (fun v wr => ∃ k : Nat, k ≤ 13 ∧ v = .int .i64 k ∧ Hid (firstF (pT b) k (13 - k) = firstF (pT b) 0 13) ∧ Hid (Below w.heap.size w wr)) (fun v _ => 13 - (intOf v).toNat)
  case atStart => exact ⟨0, by omega, rfl, hid rfl, hid (Below.refl _ _)⟩
  case round =>
    obtain ⟨k, hk, rfl, HF, HB⟩ := hrel
    clear HS
    by_cases h13 : k < 13
    · obtain ⟨n, hn⟩ : ∃ n, 13 - k = n + 1 := ⟨12 - k, by omega⟩
      have hdi : decide ((k : Int) < 13) = true := by simp; omega
      cases hq : (pT b) k
      · have HF2 := hid (show firstF (pT b) (k + 1) (13 - (k + 1)) = firstF (pT b) 0 13 by rw [← HF.out, hn, firstF_miss hq]; congr 1; omega)
        have HQ := hid hq
        clear hn hq HF
        go_wp2_with (go_at_call 129; (with_reducible refine (isTurnOf_any b k hbb h13 _ (HT.out.below HB.out)).mono ?_); rintro e w' ⟨rfl, hb⟩; rw [HQ.out])
        go_roundw
        case rel => exact ⟨k + 1, by omega, by go_num, HF2, hid (HB.out.trans (hb.mono HB.out.size))⟩
        case measure => simp [intOf]; omega
      · have HF2 := hid (show firstF (pT b) 0 13 = ((k : Int), true) by rw [← HF.out, hn, firstF_hit hq])
        have HQ := hid hq
        clear hn hq HF
        go_wp2_with (go_at_call 129; (with_reducible refine (isTurnOf_any b k hbb h13 _ (HT.out.below HB.out)).mono ?_); rintro e w' ⟨rfl, hb⟩; rw [HQ.out])
        go_ret2
        exact ⟨by rw [HF2.out]; rfl, HB.out.trans (hb.mono HB.out.size)⟩
    · obtain rfl : k = 13 := by omega
      have hdi : decide (((13 : Nat) : Int) < 13) = false := by simp
      go_wp2
      go_ret2
      exact ⟨by rw [← HF.out]; rfl, HB.out⟩
theorem bturned_any (b : Nat) (hb : b < 13) (w : World) (hT : TB w) :
    Calls Tryd.prog 120 #[.int .i64 b] w fun e w' => e = .returned (.int .i64 ((12 - b : Nat) : Int)) ∧ Below w.heap.size w w' := by
  have HT := hid hT
  clear hT
  have HR := hid (pT_find hb)
  have HW := hid (where_turned b hb)
  generalize ((12 - b : Nat) : Int) = r at *
  clear hb
  have HS := AllLt.start w; go_enter Tryd.func120, Tryd.ntmps120
  go_wp2_with fail
  (with_reducible refine (HW.out _ HT.out).mono ?_)
  rintro e w' ⟨rfl, hb⟩
  simp only [HR.out]
  go_wp2
  go_ret
  exact ⟨rfl, hb⟩
end Go.Proofs.YtnogdjmciekieaaDoor.C
