/- Chapter 4: relations of lists, closures, neighbors, steps: the program's walks. -/
import Derived.Test.YtlmmjdaipedjjaaDoorLsg
namespace Go.Proofs.YtlmmjdaipedjjaaDoor.C
open Go.RowKit
set_option linter.unusedVariables false
set_option linter.unusedSimpArgs false
theorem flist_any (l : List Nat) (hl : l.length ≤ 13) (v : Value) (k c : Nat) (w : World) (hc : w.cell? ⟨c, 0, none⟩ = some v) (hL : Ls w v l) :
    Calls Tryd.prog 143 #[.int .i64 k, .pointer (some ⟨c, 0, none⟩)] w fun e w' => e = .returned (.bool (inL l k)) ∧ Below w.heap.size w w' := by
  have HC := hid (contains_any v l k w hL hl)
  obtain ⟨a, cap, rfl, _⟩ := hL
  have HS := AllLt.start w; go_enter Tryd.func143, Tryd.ntmps143
  go_wp2_with (first | (go_at_call 144; refine HC.out.mono ?_; rintro e w' ⟨rfl, rfl⟩))
  go_ret
  exact ⟨rfl, by exact Below.refl _ _⟩
set_option maxHeartbeats 1000000 in
theorem rwhere_list (l : List Nat) (hl : l.length ≤ 13) (v : Value) (c : Nat) (w : World) (hc : w.cell? ⟨c, 0, none⟩ = some v) (hL : Ls w v l) (hT : TB w) :
    Calls Tryd.prog 129 #[.func (.func 143) #[] #[.pointer (some ⟨c, 0, none⟩)]] w fun e w' => e = .returned (.int .i64 ((whN (inL l) : Nat) : Int)) ∧ Below w.heap.size w w' := by
  have HT := hid hT
  clear hT
  have HC := hid hc
  have hlt : c < w.heap.size := cell_lt' hc
  have HL := hid hL
  clear hc hL
  have HS := AllLt.start w; go_enter Tryd.func129, Tryd.ntmps129
  go_wp2
  go_loopw [3, 5] (fun acc v wr => ∃ k : Nat, k ≤ 13 ∧ v = .int .i64 k ∧ acc = .int .i64 ((whF (inL l) k : Nat) : Int) ∧ Hid (Below w.heap.size w wr)) (fun _ v _ => 13 - (intOf v).toNat)
  case atStart => exact ⟨0, by omega, rfl, rfl, hid (Below.refl _ _)⟩
  case round =>
    obtain ⟨k, hk, rfl, rfl, HB⟩ := hrel
    clear HS
    by_cases h13 : k < 13
    · have hdi : decide ((k : Int) < 13) = true := by simp; omega
      cases hq : (inL l) k
      · have HF := hid (whF_miss hq)
        have HQ := hid hq
        clear hq
        go_wp2_with (first | (go_at_call 143; (with_reducible refine (flist_any l hl v k c _ (by rw [HB.out.cell (p := ⟨c, 0, none⟩) hlt]; exact HC.out) (HL.out.below HB.out)).mono ?_); rintro e w' ⟨rfl, hb⟩; rw [HQ.out]))
        go_roundw
        case rel => exact ⟨k + 1, by omega, by go_num, by rw [HF.out], hid (HB.out.trans (hb.mono HB.out.size))⟩
        case measure => simp [intOf]; omega
      · have HF := hid ((i64_or _ _ (whF_lt (p := inL l) hk) (pow_lt h13)).trans (congrArg _ (whF_hit hq).symm))
        have HQ := hid hq
        clear hq
        go_wp2_with (first | (go_at_call 143; (with_reducible refine (flist_any l hl v k c _ (by rw [HB.out.cell (p := ⟨c, 0, none⟩) hlt]; exact HC.out) (HL.out.below HB.out)).mono ?_); rintro e w' ⟨rfl, hb⟩; rw [HQ.out]) | (go_at_call 154; (with_reducible refine (relationOf_any k h13 _).mono ?_); rintro e w' ⟨rfl, rfl⟩))
        go_roundw
        case rel => exact ⟨k + 1, by omega, by go_num, ret_val HF.out, hid (HB.out.trans (hb.mono HB.out.size))⟩
        case measure => simp [intOf]; omega
    · obtain rfl : k = 13 := by omega
      have hdi : decide (((13 : Nat) : Int) < 13) = false := by simp
      go_wp2
      go_ret
      exact ⟨rfl, HB.out⟩
theorem ofList_any (v : Value) (l : List Nat) (w : World) (hL : Ls w v l) (hl : l.length ≤ 13) (hT : TB w) :
    Calls Tryd.prog 121 #[v] w fun e w' => e = .returned (.int .i64 ((whN (inL l) : Nat) : Int)) ∧ Below w.heap.size w w' := by
  have hB0 := (Below.refl w.heap.size w).alloc (Nat.le_refl _) (.cells #[v] 142)
  have HT := hid (hT.below hB0)
  have H0 := hid hB0
  have HL := hid (hL.below hB0)
  clear hT hB0
  obtain ⟨a, cap, rfl, _⟩ := hL
  have HS := AllLt.start w; go_enter Tryd.func121, Tryd.ntmps121
  go_wp2_with fail
  (with_reducible refine (rwhere_list l hl _ _ _ (new_cell _ _ _) HL.out HT.out).mono ?_)
  rintro e w' ⟨rfl, hb'⟩
  go_wp2
  go_ret
  exact ⟨rfl, H0.out.trans (hb'.mono (by simp))⟩
theorem whN_congr {p q : Nat → Bool} (h : ∀ k, k < 13 → p k = q k) : whN p = whN q := set_ext (whN_lt _) (whN_lt _) fun j hj => by rw [whN_test hj, whN_test hj, h j hj]
theorem closure_any (n : Nat) (hn : n < 8192) (w : World) (hT : TB w) :
    Calls Tryd.prog 92 #[.int .i64 n] w fun e w' => e = .returned (.int .i64 ((closN n : Nat) : Int)) ∧ Below w.heap.size w w' := by
  have HT := hid hT
  clear hT
  have hnd := bl_nodup n.testBit 13
  have hlt : ∀ x ∈ bl n.testBit 13, x < 13 := fun x hx => bl_lt hx
  have hlen : (growL (fun b => bl (nearB b) 13) (bl n.testBit 13) (bl n.testBit 13)).length ≤ 13 := len13 (nodup_growL hnd) fun z hz => by
    rcases mem_growL.1 hz with h | ⟨x, _, h⟩
    · exact hlt z h
    · exact bl_lt h
  have HCL := hid (show whN (inL (growL (fun b => bl (nearB b) 13) (bl n.testBit 13) (bl n.testBit 13))) = closN n from clos_list n)
  have HS := AllLt.start w; go_enter Tryd.func92, Tryd.ntmps92
  go_wp2_with fail
  (with_reducible refine (basics_any n hn _ HT.out).mono ?_)
  rintro e w1 ⟨v1, rfl, ho1, hb1⟩
  go_wp2_with fail
  (with_reducible refine (grown_near _ _ _ ho1.ls hnd hlt (HT.out.below hb1)).mono ?_)
  rintro e w2 ⟨v2, rfl, ho2, hb2⟩
  have HB2 := hid (hb1.trans (hb2.mono hb1.size))
  go_wp2_with fail
  (with_reducible refine (ofList_any _ _ _ ho2.ls hlen (HT.out.below HB2.out)).mono ?_)
  rintro e w3 ⟨rfl, hb3⟩
  rw [HCL.out]
  go_wp2
  go_ret
  exact ⟨rfl, HB2.out.trans (hb3.mono HB2.out.size)⟩
end Go.Proofs.YtlmmjdaipedjjaaDoor.C
