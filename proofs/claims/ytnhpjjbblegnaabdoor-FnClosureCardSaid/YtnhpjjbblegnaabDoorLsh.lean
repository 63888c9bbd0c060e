/- Chapter 4: relations of lists, closures, neighbors, steps: the program's walks. -/
import Derived.Test.YtnhpjjbblegnaabDoorLsg
namespace Go.Proofs.YtnhpjjbblegnaabDoor.C
open Go.RowKit
set_option linter.unusedVariables false
set_option linter.unusedSimpArgs false
theorem flist_any (l : List Nat) (hl : l.length ≤ 13) (v : Value) (k c : Nat) (w : World) (hc : w.cell? ⟨c, 0, none⟩ = some v) (hL : Ls w v l) :
    Calls Tryd.prog 143 #[.int .i64 k, .pointer (some ⟨c, 0, none⟩)] w fun e w' => e = .returned (.bool (inL l k)) ∧ Below w.heap.size w w' := by
  have HC := hid (contains_any v l k w hL hl)
  obtain ⟨a, cap, rfl, _⟩ := hL
  have HS := AllLt.start w; go_enter Tryd.func143, Tryd.ntmps143
  go_wp2_with (first | (go_at_call 144; refine HC.out.mono ?_; rintro e w' ⟨rfl, rfl⟩))
  go_ret
  exact ⟨rfl, by exact Below.refl _ _⟩
set_option maxHeartbeats 1000000 in
theorem rwhere_list (l : List Nat) (hl : l.length ≤ 13) (v : Value) (c : Nat) (w : World) (hc : w.cell? ⟨c, 0, none⟩ = some v) (hL : Ls w v l) (hT : TB w) :
    Calls Tryd.prog 84 #[.func (.func 143) #[] #[.pointer (some ⟨c, 0, none⟩)]] w fun e w' => e = .returned (.int .i64 ((whN (inL l) : Nat) : Int)) ∧ Below w.heap.size w w' := by
  have HT := hid hT
  clear hT
  have HC := hid hc
  have hlt : c < w.heap.size := cell_lt' hc
  have HL := hid hL
  clear hc hL
  have HS := AllLt.start w; go_enter Tryd.func84, Tryd.ntmps84
  go_wp2
  go_loopw [3, 5] (fun acc v wr => ∃ k : Nat, k ≤ 13 ∧ v = .int .i64 k ∧ acc = .int .i64 ((whF (inL l) k : Nat) : Int) ∧ Hid (Below w.heap.size w wr)) (fun _ v _ => 13 - (intOf v).toNat)
  case atStart => exact ⟨0, by omega, rfl, rfl, hid (Below.refl _ _)⟩
  case round =>
    obtain ⟨k, hk, rfl, rfl, HB⟩ := hrel
    clear HS
    by_cases h13 : k < 13
    · have hdi : decide ((k : Int) < 13) = true := by simp; omega
      cases hq : (inL l) k
      · have HF := hid (whF_miss hq)
        have HQ := hid hq
        clear hq
        go_wp2_with (first | (go_at_call 143; (with_reducible refine (flist_any l hl v k c _ (by rw [HB.out.cell (p := ⟨c, 0, none⟩) hlt]; exact HC.out) (HL.out.below HB.out)).mono ?_); rintro e w' ⟨rfl, hb⟩; rw [HQ.out]))
        go_roundw
        case rel => exact ⟨k + 1, by omega, by go_num, by rw [HF.out], hid (HB.out.trans (hb.mono HB.out.size))⟩
        case measure => simp [intOf]; omega
      · have HF := hid ((i64_or _ _ (whF_lt (p := inL l) hk) (pow_lt h13)).trans (congrArg _ (whF_hit hq).symm))
        have HQ := hid hq
        clear hq
        go_wp2_with (first | (go_at_call 143; (with_reducible refine (flist_any l hl v k c _ (by rw [HB.out.cell (p := ⟨c, 0, none⟩) hlt]; exact HC.out) (HL.out.below HB.out)).mono ?_); rintro e w' ⟨rfl, hb⟩; rw [HQ.out]) | (go_at_call 138; (with_reducible refine (relationOf_any k h13 _).mono ?_); rintro e w' ⟨rfl, rfl⟩))
        go_roundw
        case rel => exact ⟨k + 1, by omega, by go_num, ret_val HF.out, hid (HB.out.trans (hb.mono HB.out.size))⟩
        case measure => simp [intOf]; omega
    · obtain rfl : k = 13 := by omega
      have hdi : decide (((13 : Nat) : Int) < 13) = false := by simp
      go_wp2
      go_ret
      exact ⟨rfl, HB.out⟩
theorem ofList_any (v : Value) (l : List Nat) (w : World) (hL : Ls w v l) (hl : l.length ≤ 13) (hT : TB w) :
    Calls Tryd.prog 88 #[v] w fun e w' => e = .returned (.int .i64 ((whN (inL l) : Nat) : Int)) ∧ Below w.heap.size w w' := by
  have hB0 := (Below.refl w.heap.size w).alloc (Nat.le_refl _) (.cells #[v] 75)
  have HT := hid (hT.below hB0)
  have H0 := hid hB0
  have HL := hid (hL.below hB0)
  clear hT hB0
  obtain ⟨a, cap, rfl, _⟩ := hL
  have HS := AllLt.start w; go_enter Tryd.func88, Tryd.ntmps88
  go_wp2_with fail
  (with_reducible refine (rwhere_list l hl _ _ _ (new_cell _ _ _) HL.out HT.out).mono ?_)
  rintro e w' ⟨rfl, hb'⟩
  go_wp2
  go_ret
  exact ⟨rfl, H0.out.trans (hb'.mono (by simp))⟩
theorem whN_congr {p q : Nat → Bool} (h : ∀ k, k < 13 → p k = q k) : whN p = whN q := set_ext (whN_lt _) (whN_lt _) fun j hj => by rw [whN_test hj, whN_test hj, h j hj]
theorem closure_any (n : Nat) (hn : n < 8192) (w : World) (hT : TB w) :
    Calls Tryd.prog 79 #[.int .i64 n] w fun e w' => e = .returned (.int .i64 ((closN n : Nat) : Int)) ∧ Below w.heap.size w w' := by
  have HT := hid hT
  clear hT
  have hnd := bl_nodup n.testBit 13
  have hlt : ∀ x ∈ bl n.testBit 13, x < 13 := fun x hx => bl_lt hx
  have hlen : (growL (fun b => bl (nearB b) 13) (bl n.testBit 13) (bl n.testBit 13)).length ≤ 13 := len13 (nodup_growL hnd) fun z hz => by
    rcases mem_growL.1 hz with h | ⟨x, _, h⟩
    · exact hlt z h
    · exact bl_lt h
  have HCL := hid (show whN (inL (growL (fun b => bl (nearB b) 13) (bl n.testBit 13) (bl n.testBit 13))) = closN n from clos_list n)
  have HS := AllLt.start w; go_enter Tryd.func79, Tryd.ntmps79
  go_wp2_with fail
  (with_reducible refine (basics_any n hn _ HT.out).mono ?_)
  rintro e w1 ⟨v1, rfl, ho1, hb1⟩
  go_wp2_with fail
  (with_reducible refine (grown_near _ _ _ ho1.ls hnd hlt (HT.out.below hb1)).mono ?_)
  rintro e w2 ⟨v2, rfl, ho2, hb2⟩
  have HB2 := hid (hb1.trans (hb2.mono hb1.size))
  go_wp2_with fail
  (with_reducible refine (ofList_any _ _ _ ho2.ls hlen (HT.out.below HB2.out)).mono ?_)
  rintro e w3 ⟨rfl, hb3⟩
  rw [HCL.out]
  go_wp2
  go_ret
  exact ⟨rfl, HB2.out.trans (hb3.mono HB2.out.size)⟩
theorem iClosureOf_any (r : Int) (w : World) (hT : TB w) :
    Calls Tryd.prog 29 #[.int .i64 r] w fun e w' => e = .returned (.int .i64 (cloI r)) ∧ Below w.heap.size w w' := by
  have HT := hid hT
  clear hT
  rcases rv_cases r with h | ⟨n, hn, rfl⟩
  · have H := hid h
    clear h
    have HS := AllLt.start w; go_enter Tryd.func29, Tryd.ntmps29
    go_wp2_with (first | (go_at_call 24; (with_reducible refine (iRelValid_any r _).mono ?_); rintro e w' ⟨rfl, rfl⟩; rw [H.out]))
    go_ret
    exact ⟨ret_int (cloI_off H.out).symm, Below.refl _ _⟩
  · have H := hid (rv_nat n hn)
    have HS := AllLt.start w; go_enter Tryd.func29, Tryd.ntmps29
    go_wp2_with (first | (go_at_call 24; (with_reducible refine (iRelValid_any _ _).mono ?_); rintro e w' ⟨rfl, rfl⟩; rw [H.out]) | (go_at_call 79; (with_reducible refine (closure_any n hn _ HT.out).mono ?_); rintro e w' ⟨rfl, hb⟩))
    go_ret
    exact ⟨ret_int (cloI_on hn).symm, hb⟩
theorem iNextOf_any (s : ByteArray) (w : World) (hT : TB w) :
    Calls Tryd.prog 32 #[.string s] w fun e w' => e = .returned (.int .i64 (nexI (lixI s))) ∧ Below w.heap.size w w' := by
  have HT := hid hT
  clear hT
  rcases lix_cases s with ⟨k, hk, he, hr⟩ | ⟨he, hr⟩
  all_goals
    clear he
    have HR := hid hr
    clear hr
    have HS := AllLt.start w; go_enter Tryd.func32, Tryd.ntmps32
    go_wp2_with fail
    (with_reducible refine (basicOfLetter_any s _ HT.out).mono ?_)
    rintro e w1 ⟨rfl, hb⟩
    simp only [HR.out]
    have HB := hid hb
    clear hb
  · go_wp2_with fail
    (with_reducible refine (next_any k hk _ (HT.out.below HB.out)).mono ?_)
    rintro e w2 ⟨v2, rfl, ho2, hb2⟩
    have HB2 := hid (HB.out.trans (hb2.mono HB.out.size))
    go_wp2_with fail
    (with_reducible refine (ofList_any _ _ _ ho2.ls (bl_len _ _) (HT.out.below HB2.out)).mono ?_)
    rintro e w3 ⟨rfl, hb3⟩
    rw [show whN (inL (bl (nextB k) 13)) = nextN k from next_list k]
    go_wp2
    go_ret
    exact ⟨by rw [lixI_hit HR.out, nexI_nat]; rfl, HB2.out.trans (hb3.mono HB2.out.size)⟩
  · go_wp2
    go_ret
    exact ⟨by rw [lixI_miss HR.out]; rfl, HB.out⟩
set_option maxHeartbeats 1000000 in
theorem stepsTo_any (b c : Nat) (hb : b < 13) (hc : c < 13) (w : World) (hT : TB w) :
    Calls Tryd.prog 94 #[.int .i64 b, .int .i64 c] w fun e w' => e = .returned (.int .i64 ((stN b c : Nat) : Int)) ∧ Below w.heap.size w w' := by
  have HT := hid hT
  clear hT
  have hs9 := stN_lt hb hc
  have HS := AllLt.start w; go_enter Tryd.func94, Tryd.ntmps94
  go_wp2
  go_loopw [5, 6] (fun s v wr => ∃ (i : Nat) (all : Value), all = v ∧ i ≤ stN b c ∧ s = .int .i64 i ∧ Hid (Bs wr w.heap.size all (rchL b i)) ∧ Hid (Below w.heap.size w wr)) (fun s _ _ => 9 - (intOf s).toNat)
  case atStart => exact ⟨0, _, rfl, by omega, rfl, hid ⟨by simp [rchL], .inr ⟨w.heap.size, 1, _, rfl, Nat.le_refl _, heap_alloc_new w _, by simp [rchL], by unfold maxLen; omega, by simp, by simp [rchL]⟩⟩, hid ((Below.refl _ _).alloc (Nat.le_refl _) _)⟩
  case round =>
    obtain ⟨i, all, rfl, hi, rfl, HO, HB⟩ := hrel
    clear HS
    obtain ⟨wo, rfl⟩ : ∃ wo : World, wo = wr := ⟨_, rfl⟩
    have hok := rch_ok (i := i) hb (by omega)
    have hlen := len13 hok.1 hok.2
    have hin : inL (rchL b i) c = decide (i = stN b c) := (rch_mem hb hc (by omega)).trans (st_at hb hc hi)
    by_cases e : i = stN b c
    · rw [decide_eq_true e] at hin
      have HQ := hid hin
      have HE := hid e
      clear hin e
      go_wp2_with (first | (go_at_call 144; (with_reducible refine (contains_any _ (rchL b i) c _ HO.out.ls hlen).mono ?_); rintro e w' ⟨rfl, rfl⟩; rw [HQ.out]))
      go_ret
      exact ⟨by rw [HE.out]; rfl, HB.out⟩
    · rw [decide_eq_false e] at hin
      have HQ := hid hin
      have hlt : i < stN b c := by omega
      clear hin e
      go_wp2_with (first | (go_at_call 144; (with_reducible refine (contains_any _ (rchL b i) c _ HO.out.ls hlen).mono ?_); rintro e w' ⟨rfl, rfl⟩; rw [HQ.out]) | (go_at_call 132; (with_reducible refine (grown_next _ _ _ HO.out.ls hok.1 hok.2 (HT.out.below HB.out)).mono ?_); rintro e w2 ⟨v2, rfl, ho2, hb2⟩))
      have HO2 := hid (own_base ho2 HB.out.size)
      have HB2 := hid (HB.out.trans (hb2.mono HB.out.size))
      clear ho2 hb2
      go_roundw
      case rel => exact ⟨i + 1, _, rfl, by omega, by go_num, HO2, HB2⟩
      case measure => simp [intOf]; omega
theorem iStepsBetween_any (r s : ByteArray) (w : World) (hT : TB w) :
    Calls Tryd.prog 35 #[.string r, .string s] w fun e w' => e = .returned (.int .i64 (stI (lixI r) (lixI s))) ∧ Below w.heap.size w w' := by
  have HT := hid hT
  clear hT
  rcases lix_cases r with ⟨i, hi, he, hr⟩ | ⟨he, hr⟩
  · clear he
    rcases lix_cases s with ⟨k, hk, he, hs⟩ | ⟨he, hs⟩
    · have HR := hid hr
      have HQ := hid hs
      clear hr hs he
      have HS := AllLt.start w; have hn2 := lt2; have hn3 := lt3; have hn4 := lt4; go_enter Tryd.func35, Tryd.ntmps35
      go_wp2_with (first | (go_at_call 82; (with_reducible refine (basicOfLetter_any r _ (HT.out.below (by go_grown))).mono ?_); rintro e w' ⟨rfl, hb⟩; obtain ⟨HB, hz0, hz, hc, hf⟩ := bst (w0 := w) (by go_grown) hb; clear hb; (try simp at hz); (first | ((refine HS.g5 (m := w'.heap.size) ?_ ?_); (focus omega); intro HS) | ((refine HS.g4 (m := w'.heap.size) ?_ ?_); (focus omega); intro HS) | ((refine HS.g3 (m := w'.heap.size) ?_ ?_); (focus omega); intro HS) | ((refine HS.g2 (m := w'.heap.size) ?_ ?_); (focus omega); intro HS) | ((refine HS.g1 (m := w'.heap.size) ?_ ?_); (focus omega); intro HS) | ((refine HS.g0 (m := w'.heap.size) ?_ ?_); (focus omega); intro HS)); have HU := HS; simp only [AllLt] at HU; simp only [HR.out]) | (go_at_call 82; (with_reducible refine (basicOfLetter_any s _ (HT.out.below (by go_grown))).mono ?_); rintro e w' ⟨rfl, hb⟩; obtain ⟨HB, hz0, hz, hc, hf⟩ := bst (w0 := w) (by go_grown) hb; clear hb; (try simp at hz); (first | ((refine HS.g5 (m := w'.heap.size) ?_ ?_); (focus omega); intro HS) | ((refine HS.g4 (m := w'.heap.size) ?_ ?_); (focus omega); intro HS) | ((refine HS.g3 (m := w'.heap.size) ?_ ?_); (focus omega); intro HS) | ((refine HS.g2 (m := w'.heap.size) ?_ ?_); (focus omega); intro HS) | ((refine HS.g1 (m := w'.heap.size) ?_ ?_); (focus omega); intro HS) | ((refine HS.g0 (m := w'.heap.size) ?_ ?_); (focus omega); intro HS)); have HU := HS; simp only [AllLt] at HU; simp only [HQ.out]) | (go_at_call 94; (with_reducible refine (stepsTo_any i k hi hk _ (HT.out.below (by go_grown))).mono ?_); rintro e w' ⟨rfl, hb⟩; obtain ⟨HB, hz0, hz, hc, hf⟩ := bst (w0 := w) (by go_grown) hb; clear hb; (try simp at hz); (first | ((refine HS.g5 (m := w'.heap.size) ?_ ?_); (focus omega); intro HS) | ((refine HS.g4 (m := w'.heap.size) ?_ ?_); (focus omega); intro HS) | ((refine HS.g3 (m := w'.heap.size) ?_ ?_); (focus omega); intro HS) | ((refine HS.g2 (m := w'.heap.size) ?_ ?_); (focus omega); intro HS) | ((refine HS.g1 (m := w'.heap.size) ?_ ?_); (focus omega); intro HS) | ((refine HS.g0 (m := w'.heap.size) ?_ ?_); (focus omega); intro HS)); have HU := HS; simp only [AllLt] at HU))
      go_ret
      exact ⟨by rw [lixI_hit HR.out, lixI_hit HQ.out, stI_nat]; rfl, by (repeat' (first | (with_reducible exact Below.refl _ _) | (with_reducible refine Below.setCell ?_ ?_ _) | (with_reducible refine below_drewN' ?_ _) | (with_reducible refine below_drew' ?_) | (with_reducible refine Below.alloc ?_ ?_ _) | (with_reducible assumption) | go_size))⟩
    · have HR := hid hr
      have HQ := hid hs
      clear hr hs he
      have HS := AllLt.start w; have hn2 := lt2; have hn3 := lt3; have hn4 := lt4; go_enter Tryd.func35, Tryd.ntmps35
      go_wp2_with (first | (go_at_call 82; (with_reducible refine (basicOfLetter_any r _ (HT.out.below (by go_grown))).mono ?_); rintro e w' ⟨rfl, hb⟩; obtain ⟨HB, hz0, hz, hc, hf⟩ := bst (w0 := w) (by go_grown) hb; clear hb; (try simp at hz); (first | ((refine HS.g5 (m := w'.heap.size) ?_ ?_); (focus omega); intro HS) | ((refine HS.g4 (m := w'.heap.size) ?_ ?_); (focus omega); intro HS) | ((refine HS.g3 (m := w'.heap.size) ?_ ?_); (focus omega); intro HS) | ((refine HS.g2 (m := w'.heap.size) ?_ ?_); (focus omega); intro HS) | ((refine HS.g1 (m := w'.heap.size) ?_ ?_); (focus omega); intro HS) | ((refine HS.g0 (m := w'.heap.size) ?_ ?_); (focus omega); intro HS)); have HU := HS; simp only [AllLt] at HU; simp only [HR.out]) | (go_at_call 82; (with_reducible refine (basicOfLetter_any s _ (HT.out.below (by go_grown))).mono ?_); rintro e w' ⟨rfl, hb⟩; obtain ⟨HB, hz0, hz, hc, hf⟩ := bst (w0 := w) (by go_grown) hb; clear hb; (try simp at hz); (first | ((refine HS.g5 (m := w'.heap.size) ?_ ?_); (focus omega); intro HS) | ((refine HS.g4 (m := w'.heap.size) ?_ ?_); (focus omega); intro HS) | ((refine HS.g3 (m := w'.heap.size) ?_ ?_); (focus omega); intro HS) | ((refine HS.g2 (m := w'.heap.size) ?_ ?_); (focus omega); intro HS) | ((refine HS.g1 (m := w'.heap.size) ?_ ?_); (focus omega); intro HS) | ((refine HS.g0 (m := w'.heap.size) ?_ ?_); (focus omega); intro HS)); have HU := HS; simp only [AllLt] at HU; simp only [HQ.out]))
      go_ret
      exact ⟨by rw [lixI_miss HQ.out, stI_off2]; rfl, by (repeat' (first | (with_reducible exact Below.refl _ _) | (with_reducible refine Below.setCell ?_ ?_ _) | (with_reducible refine below_drewN' ?_ _) | (with_reducible refine below_drew' ?_) | (with_reducible refine Below.alloc ?_ ?_ _) | (with_reducible assumption) | go_size))⟩
  · have HR := hid hr
    clear hr he
    rcases lix_cases s with ⟨k, hk, he, hs⟩ | ⟨he, hs⟩
    all_goals
      have HQ := hid hs
      clear hs he
      have HS := AllLt.start w; have hn2 := lt2; have hn3 := lt3; have hn4 := lt4; go_enter Tryd.func35, Tryd.ntmps35
      go_wp2_with (first | (go_at_call 82; (with_reducible refine (basicOfLetter_any r _ (HT.out.below (by go_grown))).mono ?_); rintro e w' ⟨rfl, hb⟩; obtain ⟨HB, hz0, hz, hc, hf⟩ := bst (w0 := w) (by go_grown) hb; clear hb; (try simp at hz); (first | ((refine HS.g5 (m := w'.heap.size) ?_ ?_); (focus omega); intro HS) | ((refine HS.g4 (m := w'.heap.size) ?_ ?_); (focus omega); intro HS) | ((refine HS.g3 (m := w'.heap.size) ?_ ?_); (focus omega); intro HS) | ((refine HS.g2 (m := w'.heap.size) ?_ ?_); (focus omega); intro HS) | ((refine HS.g1 (m := w'.heap.size) ?_ ?_); (focus omega); intro HS) | ((refine HS.g0 (m := w'.heap.size) ?_ ?_); (focus omega); intro HS)); have HU := HS; simp only [AllLt] at HU; simp only [HR.out]) | (go_at_call 82; (with_reducible refine (basicOfLetter_any s _ (HT.out.below (by go_grown))).mono ?_); rintro e w' ⟨rfl, hb⟩; obtain ⟨HB, hz0, hz, hc, hf⟩ := bst (w0 := w) (by go_grown) hb; clear hb; (try simp at hz); (first | ((refine HS.g5 (m := w'.heap.size) ?_ ?_); (focus omega); intro HS) | ((refine HS.g4 (m := w'.heap.size) ?_ ?_); (focus omega); intro HS) | ((refine HS.g3 (m := w'.heap.size) ?_ ?_); (focus omega); intro HS) | ((refine HS.g2 (m := w'.heap.size) ?_ ?_); (focus omega); intro HS) | ((refine HS.g1 (m := w'.heap.size) ?_ ?_); (focus omega); intro HS) | ((refine HS.g0 (m := w'.heap.size) ?_ ?_); (focus omega); intro HS)); have HU := HS; simp only [AllLt] at HU; simp only [HQ.out]))
      go_ret
      exact ⟨by rw [lixI_miss HR.out, stI_off1]; rfl, by (repeat' (first | (with_reducible exact Below.refl _ _) | (with_reducible refine Below.setCell ?_ ?_ _) | (with_reducible refine below_drewN' ?_ _) | (with_reducible refine below_drew' ?_) | (with_reducible refine Below.alloc ?_ ?_ _) | (with_reducible assumption) | go_size))⟩
end Go.Proofs.YtnhpjjbblegnaabDoor.C
