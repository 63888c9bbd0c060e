/- Empty, atomic and nearly convex networks: the program, the model, the exact laws. -/
import Derived.Test.YtlmmjdaipedjjaaDoorCloA
import Derived.Test.YtlmmjdaipedjjaaDoorNetX
import Derived.Test.YtlmmjdaipedjjaaDoorNetO
namespace Go.Proofs.YtlmmjdaipedjjaaDoor.C
open Go.RowKit
set_option linter.unusedVariables false
set_option linter.unusedSimpArgs false
set_option maxHeartbeats 2000000 in
theorem iIsEmptyNet_any (z : Int) (s : ByteArray) (w : World) (hT : TB w) :
    Calls Tryd.prog 17 #[.agg #[.int .i64 z, .string s]] w fun e w' => e = .returned (.bool (empI z s)) ∧ Below w.heap.size w w' := by
  have HT := hid (hT.below ((Below.refl w.heap.size w).alloc (Nat.le_refl _) (.cells #[.int .i64 z, .string s] 26)))
  have HT0 := hid hT
  clear hT
  rcases nv_cases z s with h | ⟨n, R, hR, rfl, rfl⟩
  · have HNV := hid h
    clear h
    have HS := AllLt.start w; go_enter Tryd.func17, Tryd.ntmps17
    go_wp2_with fail
    (with_reducible refine (networkOf_no z s HNV.out _ HT.out).mono ?_)
    rintro e w1 ⟨rfl, hb⟩
    go_wp2_with (first | refine al_net rfl rfl ?_ | refine st_net rfl _ _ rfl rfl rfl (NB.made w1 0 fun _ _ => 0) ?_)
    go_ret
    exact ⟨ret_bool (empI_no HNV.out).symm, below_setRow ((((Below.refl _ _).alloc (Nat.le_refl _) _).trans (hb.mono (by simp))).alloc (by have := hb.size; simp at this; omega) _) (by have := hb.size; simp at this; omega) _⟩
  · have HN := hid (networkOf_yes n R hR)
    have HCC := hid (empI_yes hR)
    have h6 := hR.le
    have HLT := hid hR.lt
    have HS := AllLt.start w; go_enter Tryd.func17, Tryd.ntmps17
    go_wp2_with fail
    (with_reducible refine (HN.out _ HT.out).mono ?_)
    rintro e w1 ⟨rfl, hb⟩
    have HB0 := hid (below_setRow ((((Below.refl w.heap.size w).alloc (Nat.le_refl _) (.cells #[.int .i64 (n : Int), .string (netS n R)] 26)).trans (hb.mono (by simp))).alloc (by have := hb.size; simp at this; omega) (.cells (netV 0 fun _ _ => 0) 53)) (show w.heap.size ≤ w1.heap.size by have := hb.size; simp at this; omega) (netV n R))
    have HN2 := hid ((NB.made w1 0 fun _ _ => 0).row n R)
    clear hb hR
    go_upto_region 2 with (first | refine al_net rfl rfl ?_ | refine st_net rfl _ _ rfl rfl rfl (NB.made w1 0 fun _ _ => 0) ?_)
    generalize (w1.alloc (.cells (netV 0 fun _ _ => 0) 53)).setRow w1.heap.size (netV n R) = w2 at *
    have r0 := NB.run HN2.out
    go_wp2_with fail
    (with_reducible refine (isEmpty_any n h6 R HLT.out _ (HT0.out.below HB0.out)).mono ?_)
    rintro e w3 ⟨rfl, hb⟩
    have HB3 := hid (HB0.out.trans (hb.mono HB0.out.size))
    clear hb r0
    go_wp2_with fail
    go_ret
    exact ⟨ret_bool HCC.out.symm, HB3.out⟩
def anyZ (L : Nat → Nat) (m : Nat) : Bool := (List.range m).any fun x => L x == 0
set_option maxHeartbeats 2000000 in
theorem l6Empty_any (n : Int) (m : Nat) (hm : m ≤ 36) (L : Nat → Nat) (v : Value) (w : World) (hE : Ts w w.heap.size v m L) :
    Calls Tryd.prog 42 #[.agg #[.int .i64 n, v]] w fun e w' => e = .returned (.bool (anyZ L m)) ∧ Below w.heap.size w w' := by
  obtain ⟨a, cap, rfl, hE⟩ := hE
  have HE := hid hE
  have HTk := hid (Tk.made w n (.slice a m cap))
  have HB := hid ((Below.refl w.heap.size w).alloc (Nat.le_refl _) (.cells #[.int .i64 n, .slice a m cap] 45))
  clear hE
  have HS := AllLt.start w; go_enter Tryd.func42, Tryd.ntmps42
  go_wp2_with fail
  have t1 := HTk.out.c1
  generalize w.alloc (.cells #[.int .i64 n, .slice a m cap] 45) = w2 at *
  go_loop [3] (fun v => ∃ j : Nat, j ≤ m ∧ v = .int .i64 j ∧ Hid (∀ x, x < j → (L x == 0) = false)) (fun v => m - (intOf v).toNat)
  case atStart => exact ⟨0, by omega, rfl, hid (fun x hx => by omega)⟩
  case round =>
    obtain ⟨j, hj, rfl, HF⟩ := hrel
    clear HS
    by_cases hjm : j < m
    · have hdj : decide ((j : Int) < (m : Int)) = true := by simp; omega
      have hdk : decide (j < m) = true := by simp; omega
      obtain ⟨g, rfl, hg, hc⟩ := HE.out j hjm
      have c1 : w2.cell? ⟨g, j, none⟩ = _ := (HB.out.cell (p := ⟨g, j, none⟩) hg).trans hc
      clear hc
      cases h0 : (L j == 0)
      · have hq : ((L j : Int) == 0) = false := by rw [beq_eq_false_iff_ne] at h0 ⊢; omega
        have HN := hid (show ∀ x, x < j + 1 → (L x == 0) = false from fun x hx => by
          by_cases e : x < j
          · exact HF.out x e
          · obtain rfl : x = j := by omega
            exact h0)
        clear h0
        go_wp2
        go_round
        case rel => exact ⟨j + 1, by omega, by go_num, HN⟩
        case measure => simp [intOf]; omega
      · have hq : ((L j : Int) == 0) = true := by rw [beq_iff_eq] at h0 ⊢; omega
        have HN := hid (show anyZ L m = true from List.any_eq_true.2 ⟨j, List.mem_range.2 hjm, h0⟩)
        clear h0
        go_wp2
        go_ret
        exact ⟨ret_bool HN.out.symm, HB.out⟩
    · obtain rfl : j = m := by omega
      have hdj : decide ((j : Int) < (j : Int)) = false := by simp
      have HN := hid (show anyZ L j = false by
        unfold anyZ
        rw [List.any_eq_false]
        intro x hx
        rw [HF.out x (List.mem_range.1 hx)]; simp)
      go_wp2
      go_ret
      exact ⟨ret_bool HN.out.symm, HB.out⟩
theorem anyZ_emp {n : Nat} {R : Nat → Nat → Nat} (h : OkR n R) : anyZ (fun x => R (x / n) (x % n)) (n * n) = emp n R := by
  rw [Bool.eq_iff_iff, emp_sq h]
  unfold anyZ
  rw [List.any_eq_true]
  constructor
  · rintro ⟨x, hx, h0⟩
    exact ⟨x, List.mem_range.1 hx, by simpa using h0⟩
  · rintro ⟨x, hx, h0⟩
    exact ⟨x, List.mem_range.2 hx, by simpa using h0⟩
set_option maxHeartbeats 1000000 in
theorem sIsEmptyNet_any (z : Int) (s : ByteArray) (w : World) :
    Calls Tryd.prog 15 #[.agg #[.int .i64 z, .string s]] w fun e w' => e = .returned (.bool (empI z s)) ∧ Below w.heap.size w w' := by
  rcases nv_cases z s with h | ⟨n, R, hR, rfl, rfl⟩
  · have HNV := hid h
    have HR := hid (empI_no h)
    clear h
    have HS := AllLt.start w; have hn2 := lt2; have hn3 := lt3; have hn4 := lt4; go_enter Tryd.func15, Tryd.ntmps15
    go_wp2_with (first | (go_at_call 41; (with_reducible refine (sNetValid_any z s _).mono ?_); rintro e w' ⟨rfl, hb⟩; obtain ⟨HB, hz0, hz, hc, hf⟩ := bst (w0 := w) (by go_grown) hb; clear hb; (try simp at hz); (first | ((refine HS.g5 (m := w'.heap.size) ?_ ?_); (focus omega); intro HS) | ((refine HS.g4 (m := w'.heap.size) ?_ ?_); (focus omega); intro HS) | ((refine HS.g3 (m := w'.heap.size) ?_ ?_); (focus omega); intro HS) | ((refine HS.g2 (m := w'.heap.size) ?_ ?_); (focus omega); intro HS) | ((refine HS.g1 (m := w'.heap.size) ?_ ?_); (focus omega); intro HS) | ((refine HS.g0 (m := w'.heap.size) ?_ ?_); (focus omega); intro HS)); have HU := HS; simp only [AllLt] at HU; rw [HNV.out]))
    go_ret
    exact ⟨ret_bool HR.out.symm, by (repeat' (first | (with_reducible exact Below.refl _ _) | (with_reducible refine Below.setCell ?_ ?_ _) | (with_reducible refine below_drewN' ?_ _) | (with_reducible refine below_drew' ?_) | (with_reducible refine Below.alloc ?_ ?_ _) | (with_reducible assumption) | go_size))⟩
  · have HNV := hid (nv_net hR)
    have HR := hid ((empI_yes hR).trans (anyZ_emp hR).symm)
    have HOP := hid (l5Open_any n hR.le R hR.lt)
    have h36 : n * n ≤ 36 := Nat.mul_le_mul hR.le hR.le
    clear hR
    generalize hss : netS n R = s at *
    clear hss
    have HI0 := hid (SI.made w (n : Int) s 26)
    have HS := AllLt.start w; have hn2 := lt2; have hn3 := lt3; have hn4 := lt4; go_enter Tryd.func15, Tryd.ntmps15
    go_wp2_with fail
    (with_reducible refine (sNetValid_any n s _).mono ?_)
    rintro e w1 ⟨rfl, hb⟩
    rw [HNV.out]
    have HI1 := hid (HI0.out.below hb)
    have q0 := HI1.out.a0
    have q1 := HI1.out.a1
    clear hb HI0
    go_wp2_with fail
    (with_reducible refine (HOP.out _).mono ?_)
    rintro e w2 ⟨⟨u, rfl, hown⟩, hb⟩
    have HB2 := hid (HI1.out.bel.trans (hb.mono HI1.out.bel.size))
    have HX := hid (l6Empty_any n (n * n) h36 (fun x => R (x / n) (x % n)) u w2 (Ts.of_own hown))
    clear hown hb q0 q1
    go_wp2_with fail
    (with_reducible refine HX.out.mono ?_)
    rintro e w3 ⟨rfl, hb⟩
    have HB3 := hid (HB2.out.trans (hb.mono HB2.out.size))
    clear hb
    go_wp2_with fail
    go_ret
    exact ⟨ret_bool HR.out.symm, HB3.out⟩
set_option maxHeartbeats 1000000 in
theorem walk_FnExactIsEmptyNet (a00 : Int) (a01 : ByteArray) (w : World) (w00 : (Lit.int .i64 a00).wf = true) (w01 : a01.size ≤ maxLen) (hB : TB w) :
    Calls Tryd.prog 3 #[.agg #[.int .i64 a00, .string a01]] w fun e w' => e = .returned (.bool true) ∧ Below w.heap.size w w' := by
  have HT := hid hB
  clear hB w00
  by_cases hs : a01.size ≤ 1048576
  · have h0 : decide ((1048576 : Int) - (a01.size : Int) < 0) = false := by simp; omega
    have h1 : decide ((1048576 : Int) < (a01.size : Int)) = false := by simp; omega
    clear w01
    have HS := AllLt.start w; have hn2 := lt2; have hn3 := lt3; have hn4 := lt4; go_enter Tryd.func3, Tryd.ntmps3
    go_wp2_with (first | (go_at_call 14; (with_reducible refine (szNet_on a00 a01 hs _).mono ?_); rintro e w' ⟨rfl, hb⟩; obtain ⟨HB, hz0, hz, hc, hf⟩ := bst (w0 := w) (by go_grown) hb; clear hb; (try simp at hz); (first | ((refine HS.g5 (m := w'.heap.size) ?_ ?_); (focus omega); intro HS) | ((refine HS.g4 (m := w'.heap.size) ?_ ?_); (focus omega); intro HS) | ((refine HS.g3 (m := w'.heap.size) ?_ ?_); (focus omega); intro HS) | ((refine HS.g2 (m := w'.heap.size) ?_ ?_); (focus omega); intro HS) | ((refine HS.g1 (m := w'.heap.size) ?_ ?_); (focus omega); intro HS) | ((refine HS.g0 (m := w'.heap.size) ?_ ?_); (focus omega); intro HS)); have HU := HS; simp only [AllLt] at HU) | (go_at_call 16; (with_reducible refine (toNet_any _ _ _).mono ?_); rintro e w' ⟨rfl, hb⟩; obtain ⟨HB, hz0, hz, hc, hf⟩ := bst (w0 := w) (by go_grown) hb; clear hb; (try simp at hz); (first | ((refine HS.g5 (m := w'.heap.size) ?_ ?_); (focus omega); intro HS) | ((refine HS.g4 (m := w'.heap.size) ?_ ?_); (focus omega); intro HS) | ((refine HS.g3 (m := w'.heap.size) ?_ ?_); (focus omega); intro HS) | ((refine HS.g2 (m := w'.heap.size) ?_ ?_); (focus omega); intro HS) | ((refine HS.g1 (m := w'.heap.size) ?_ ?_); (focus omega); intro HS) | ((refine HS.g0 (m := w'.heap.size) ?_ ?_); (focus omega); intro HS)); have HU := HS; simp only [AllLt] at HU) | (go_at_call 15; (with_reducible refine (sIsEmptyNet_any _ _ _).mono ?_); rintro e w' ⟨rfl, hb⟩; obtain ⟨HB, hz0, hz, hc, hf⟩ := bst (w0 := w) (by go_grown) hb; clear hb; (try simp at hz); (first | ((refine HS.g5 (m := w'.heap.size) ?_ ?_); (focus omega); intro HS) | ((refine HS.g4 (m := w'.heap.size) ?_ ?_); (focus omega); intro HS) | ((refine HS.g3 (m := w'.heap.size) ?_ ?_); (focus omega); intro HS) | ((refine HS.g2 (m := w'.heap.size) ?_ ?_); (focus omega); intro HS) | ((refine HS.g1 (m := w'.heap.size) ?_ ?_); (focus omega); intro HS) | ((refine HS.g0 (m := w'.heap.size) ?_ ?_); (focus omega); intro HS)); have HU := HS; simp only [AllLt] at HU) | (go_at_call 17; (with_reducible refine (iIsEmptyNet_any _ _ _ (HT.out.below (by go_grown))).mono ?_); rintro e w' ⟨rfl, hb⟩; obtain ⟨HB, hz0, hz, hc, hf⟩ := bst (w0 := w) (by go_grown) hb; clear hb; (try simp at hz); (first | ((refine HS.g5 (m := w'.heap.size) ?_ ?_); (focus omega); intro HS) | ((refine HS.g4 (m := w'.heap.size) ?_ ?_); (focus omega); intro HS) | ((refine HS.g3 (m := w'.heap.size) ?_ ?_); (focus omega); intro HS) | ((refine HS.g2 (m := w'.heap.size) ?_ ?_); (focus omega); intro HS) | ((refine HS.g1 (m := w'.heap.size) ?_ ?_); (focus omega); intro HS) | ((refine HS.g0 (m := w'.heap.size) ?_ ?_); (focus omega); intro HS)); have HU := HS; simp only [AllLt] at HU))
    go_ret
    exact ⟨rfl, by (repeat' (first | (with_reducible exact Below.refl _ _) | (with_reducible refine Below.setCell ?_ ?_ _) | (with_reducible refine below_drewN' ?_ _) | (with_reducible refine below_drew' ?_) | (with_reducible refine Below.alloc ?_ ?_ _) | (with_reducible assumption) | go_size))⟩
  · have HS := AllLt.start w; have hn2 := lt2; have hn3 := lt3; have hn4 := lt4; go_enter Tryd.func3, Tryd.ntmps3
    go_wp2_with (first | (go_at_call 14; (with_reducible refine (szNet_off a00 a01 hs w01 _).mono ?_); rintro e w' ⟨rfl, hb⟩; obtain ⟨HB, hz0, hz, hc, hf⟩ := bst (w0 := w) (by go_grown) hb; clear hb; (try simp at hz); (first | ((refine HS.g5 (m := w'.heap.size) ?_ ?_); (focus omega); intro HS) | ((refine HS.g4 (m := w'.heap.size) ?_ ?_); (focus omega); intro HS) | ((refine HS.g3 (m := w'.heap.size) ?_ ?_); (focus omega); intro HS) | ((refine HS.g2 (m := w'.heap.size) ?_ ?_); (focus omega); intro HS) | ((refine HS.g1 (m := w'.heap.size) ?_ ?_); (focus omega); intro HS) | ((refine HS.g0 (m := w'.heap.size) ?_ ?_); (focus omega); intro HS)); have HU := HS; simp only [AllLt] at HU))
    go_ret
    exact ⟨rfl, by (repeat' (first | (with_reducible exact Below.refl _ _) | (with_reducible refine Below.setCell ?_ ?_ _) | (with_reducible refine below_drewN' ?_ _) | (with_reducible refine below_drew' ?_) | (with_reducible refine Below.alloc ?_ ?_ _) | (with_reducible assumption) | go_size))⟩
end Go.Proofs.YtlmmjdaipedjjaaDoor.C
