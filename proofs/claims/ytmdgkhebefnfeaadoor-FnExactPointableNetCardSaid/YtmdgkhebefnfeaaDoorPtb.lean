/- Networks whose relations are told by orders of ends: the program, the model, the exact law. -/
import Derived.Test.YtmdgkhebefnfeaaDoorCloN
import Derived.Test.YtmdgkhebefnfeaaDoorEosS
import Derived.Test.YtmdgkhebefnfeaaDoorLatR
namespace Go.Proofs.YtmdgkhebefnfeaaDoor.C
section
open Go.RowKit
set_option linter.unusedVariables false
set_option linter.unusedSimpArgs false
theorem ptB_tur {n : Nat} (h : n < 8192) : ptB ((turN n : Nat) : Int) = ptB n := by
  rw [ptB_on (turN_lt n), ptB_on h, pt_tur h, Bool.eq_iff_iff, decide_eq_true_iff, decide_eq_true_iff]
  have hp := ptN_lt n
  generalize ptN n = c at *
  constructor
  · intro e
    have e1 : turN c = turN n := by omega
    have e2 := congrArg turN e1
    rw [tt_n hp, tt_n h] at e2
    omega
  · intro e
    have e1 : c = n := by omega
    rw [e1]
noncomputable def ptv (n : Nat) (R : Nat → Nat → Nat) : Bool := (edL n).all fun p => ptB ((R p.1 p.2 : Nat) : Int)
noncomputable def ptvI (z : Int) (s : ByteArray) : Bool := NV z s && ptv z.toNat (mx z.toNat s)
theorem ptvI_no {z : Int} {s : ByteArray} (h : NV z s = false) : ptvI z s = false := by simp [ptvI, h]
theorem ptvI_yes {n : Nat} {R : Nat → Nat → Nat} (h : OkR n R) : ptvI n (netS n R) = ptv n R := by simp [ptvI, nv_net h, mx_net h]
theorem ptv_sq {n : Nat} {R : Nat → Nat → Nat} (h : OkR n R) : (∀ x, x < n * n → ptB ((R (x / n) (x % n) : Nat) : Int) = true) ↔ ptv n R = true := by
  have := sq_all h (P := fun r => ptB ((r : Nat) : Int)) (by decide +kernel) (fun r hr => ptB_tur hr)
  unfold ptv
  rw [List.all_eq_true]
  exact this
theorem clPt_any (r : Nat) (w : World) (hT : TB w) :
    Calls Tryd.prog 70 #[.int .i64 ((r : Nat) : Int)] w fun e w' => e = .returned (.bool (ptB ((r : Nat) : Int))) ∧ Below w.heap.size w w' := by
  have HC := hid (iIsPointable_any ((r : Nat) : Int) w hT)
  clear hT
  have HS := AllLt.start w; go_enter Tryd.func70, Tryd.ntmps70
  go_wp2_with fail
  (with_reducible refine HC.out.mono ?_)
  rintro e w2 ⟨rfl, hb⟩
  have HB := hid hb
  clear hb
  go_wp2_with fail
  go_ret
  exact ⟨rfl, HB.out⟩
set_option maxHeartbeats 2000000 in
theorem iPointableNet_any (z : Int) (s : ByteArray) (w : World) (hT : TB w) :
    Calls Tryd.prog 31 #[.agg #[.int .i64 z, .string s]] w fun e w' => e = .returned (.bool (ptvI z s)) ∧ Below w.heap.size w w' := by
  have HT := hid (hT.below ((Below.refl w.heap.size w).alloc (Nat.le_refl _) (.cells #[.int .i64 z, .string s] 44)))
  have HT0 := hid hT
  clear hT
  rcases nv_cases z s with h | ⟨n, R, hR, rfl, rfl⟩
  · have HNV := hid h
    clear h
    have HS := AllLt.start w; go_enter Tryd.func31, Tryd.ntmps31
    go_wp2_with fail
    (with_reducible refine (networkOf_no z s HNV.out _ HT.out).mono ?_)
    rintro e w1 ⟨rfl, hb⟩
    go_wp2_with (first | refine al_net rfl rfl ?_ | refine st_net rfl _ _ rfl rfl rfl (NB.made w1 0 fun _ _ => 0) ?_)
    go_ret
    exact ⟨ret_bool (ptvI_no HNV.out).symm, below_setRow ((((Below.refl _ _).alloc (Nat.le_refl _) _).trans (hb.mono (by simp))).alloc (by have := hb.size; simp at this; omega) _) (by have := hb.size; simp at this; omega) _⟩
  · have HN := hid (networkOf_yes n R hR)
    have HCC := hid (ptvI_yes hR)
    have h6 := hR.le
    have HLT := hid hR.lt
    have HS := AllLt.start w; go_enter Tryd.func31, Tryd.ntmps31
    go_wp2_with fail
    (with_reducible refine (HN.out _ HT.out).mono ?_)
    rintro e w1 ⟨rfl, hb⟩
    have HB0 := hid (below_setRow ((((Below.refl w.heap.size w).alloc (Nat.le_refl _) (.cells #[.int .i64 (n : Int), .string (netS n R)] 44)).trans (hb.mono (by simp))).alloc (by have := hb.size; simp at this; omega) (.cells (netV 0 fun _ _ => 0) 86)) (show w.heap.size ≤ w1.heap.size by have := hb.size; simp at this; omega) (netV n R))
    have HN2 := hid ((NB.made w1 0 fun _ _ => 0).row n R)
    have HX := hid (fun w hT => allFit_any 70 (fun _ _ => by kernel_rfl) (fun r => ptB ((r : Nat) : Int)) (fun r w _ hT => clPt_any r w hT) n h6 R HLT.out w hT)
    clear hb hR
    go_upto_region 2 with (first | refine al_net rfl rfl ?_ | refine st_net rfl _ _ rfl rfl rfl (NB.made w1 0 fun _ _ => 0) ?_)
    generalize (w1.alloc (.cells (netV 0 fun _ _ => 0) 86)).setRow w1.heap.size (netV n R) = w2 at *
    have r0 := NB.run HN2.out
    go_wp2_with fail
    (with_reducible refine (HX.out _ (HT0.out.below HB0.out)).mono ?_)
    rintro e w3 ⟨rfl, hb⟩
    have HB3 := hid (HB0.out.trans (hb.mono HB0.out.size))
    clear hb r0
    go_wp2_with fail
    go_ret
    exact ⟨ret_bool HCC.out.symm, HB3.out⟩
set_option maxHeartbeats 2000000 in
theorem sPointableNet_any (z : Int) (s : ByteArray) (w : World) :
    Calls Tryd.prog 29 #[.agg #[.int .i64 z, .string s]] w fun e w' => e = .returned (.bool (ptvI z s)) ∧ Below w.heap.size w w' := by
  rcases nv_cases z s with h | ⟨n, R, hR, rfl, rfl⟩
  · have HNV := hid h
    have HR := hid (ptvI_no h)
    clear h
    have HS := AllLt.start w; have hn2 := lt2; have hn3 := lt3; have hn4 := lt4; go_enter Tryd.func29, Tryd.ntmps29
    go_wp2_with (first | (go_at_call 65; (with_reducible refine (sNetValid_any z s _).mono ?_); rintro e w' ⟨rfl, hb⟩; obtain ⟨HB, hz0, hz, hc, hf⟩ := bst (w0 := w) (by go_grown) hb; clear hb; (try simp at hz); (first | ((refine HS.g5 (m := w'.heap.size) ?_ ?_); (focus omega); intro HS) | ((refine HS.g4 (m := w'.heap.size) ?_ ?_); (focus omega); intro HS) | ((refine HS.g3 (m := w'.heap.size) ?_ ?_); (focus omega); intro HS) | ((refine HS.g2 (m := w'.heap.size) ?_ ?_); (focus omega); intro HS) | ((refine HS.g1 (m := w'.heap.size) ?_ ?_); (focus omega); intro HS) | ((refine HS.g0 (m := w'.heap.size) ?_ ?_); (focus omega); intro HS)); have HU := HS; simp only [AllLt] at HU; rw [HNV.out]))
    go_ret
    exact ⟨ret_bool HR.out.symm, by (repeat' (first | (with_reducible exact Below.refl _ _) | (with_reducible refine Below.setCell ?_ ?_ _) | (with_reducible refine below_drewN' ?_ _) | (with_reducible refine below_drew' ?_) | (with_reducible refine Below.alloc ?_ ?_ _) | (with_reducible assumption) | go_size))⟩
  · have HNV := hid (nv_net hR)
    have HR := hid (ptvI_yes hR)
    have HSQ := hid (ptv_sq hR)
    have HOP := hid (l5Open_any n hR.le R hR.lt)
    have h36 : n * n ≤ 36 := Nat.mul_le_mul hR.le hR.le
    clear hR
    generalize netS n R = s at *
    obtain ⟨L, hL⟩ : ∃ L : Nat → Nat, L = fun x => R (x / n) (x % n) := ⟨_, rfl⟩
    rw [← hL] at HOP
    have HSL := hid (show (∀ x, x < n * n → ptB ((L x : Nat) : Int) = true) ↔ ptv n R = true by rw [hL]; exact HSQ.out)
    clear hL HSQ
    generalize n * n = nn at *
    have HI0 := hid (SI.made w (n : Int) s 44)
    have HS := AllLt.start w; have hn2 := lt2; have hn3 := lt3; have hn4 := lt4; go_enter Tryd.func29, Tryd.ntmps29
    go_wp2_with fail
    (with_reducible refine (sNetValid_any n s _).mono ?_)
    rintro e w1 ⟨rfl, hb⟩
    rw [HNV.out]
    have HI1 := hid (HI0.out.below hb)
    have q0 := HI1.out.a0
    have q1 := HI1.out.a1
    clear hb HI0
    go_wp2_with fail
    (with_reducible refine (HOP.out _).mono ?_)
    rintro e w2 ⟨⟨u, rfl, hown⟩, hb⟩
    obtain ⟨ao, n', cap, rfl⟩ : ∃ ao n' cap, u = .slice ao n' cap := by
      rcases hown.2 with ⟨hv, _⟩ | ⟨g, cap, cur, hv, _⟩
      · exact ⟨_, _, _, hv⟩
      · exact ⟨_, _, _, hv⟩
    have hnn : n' = nn := by
      rcases hown.2 with ⟨hv, h0⟩ | ⟨g, cap, cur, hv, _⟩
      · cases hv; exact h0.symm
      · cases hv; rfl
    subst hnn
    have HB2 := hid ((HI1.out.bel.trans (hb.mono HI1.out.bel.size)).alloc (Nat.le_trans HI1.out.bel.size hb.size) (.cells #[.int .i64 (n : Int), .slice ao n' cap] 80))
    have HTk := hid (Tk.made w2 n (.slice ao n' cap))
    obtain ⟨a', cap', hv', hE⟩ := Ts.of_own (hown.alloc (.cells #[.int .i64 (n : Int), .slice ao n' cap] 80))
    cases hv'
    have HE := hid hE
    clear hown hb q0 q1 hE
    go_upto_region 4 with fail
    generalize w2.alloc (.cells #[.int .i64 (n : Int), .slice ao n' cap] 80) = w3 at *
    go_wp2_with fail
    go_loopw [4] (fun v wr => ∃ j : Nat, j ≤ n' ∧ v = .int .i64 j ∧ Hid (∀ x, x < j → ptB ((L x : Nat) : Int) = true) ∧ Hid (Below w3.heap.size w3 wr)) (fun v _ => n' - (intOf v).toNat)
    case atStart => exact ⟨0, by omega, rfl, hid (fun x hx => by omega), hid (Below.refl _ _)⟩
    case round =>
      obtain ⟨j, hj, rfl, HF, HX⟩ := hrel
      clear HS
      obtain ⟨wi, rfl⟩ : ∃ wi : World, wi = wr := ⟨_, rfl⟩
      have t1 := (HTk.out.below HX.out HTk.out.lt).c1
      by_cases hjm : j < n'
      · have hdj : decide ((j : Int) < (n' : Int)) = true := by simp; omega
        have hdk : decide (j < n') = true := by simp; omega
        obtain ⟨g, rfl, hg, hc⟩ := HE.out j hjm
        have c1 : wi.cell? ⟨g, j, none⟩ = _ := (HX.out.cell (p := ⟨g, j, none⟩) hg).trans hc
        clear hc
        generalize hr : L j = r at *
        have HRJ := hid hr
        clear hr
        cases hp : ptB ((r : Nat) : Int)
        all_goals
          have HP := hid hp
          clear hp
          go_wp2_with fail
          (with_reducible refine (sIsPointable_any _ _).mono ?_)
          rintro e w4 ⟨rfl, hb⟩
          rw [HP.out]
          have HX4 := hid (HX.out.trans (hb.mono HX.out.size))
          clear hb t1 c1
          go_wp2_with fail
        · have HN := hid (show ptv n R = false by
            cases hh : ptv n R
            · rfl
            · have := HSL.out.2 hh j hjm
              rw [HRJ.out, HP.out] at this
              cases this)
          go_ret
          exact ⟨ret_bool (by rw [HR.out, HN.out]), HB2.out.trans (HX4.out.mono HB2.out.size)⟩
        · go_roundw
          case rel => exact ⟨j + 1, by omega, by go_num, hid (fun x hx => by
            by_cases e : x < j
            · exact HF.out x e
            · obtain rfl : x = j := by omega
              rw [HRJ.out]; exact HP.out), HX4⟩
          case measure => simp [intOf]; omega
      · obtain rfl : j = n' := by omega
        have hdj : decide ((j : Int) < (j : Int)) = false := by simp
        have HN := hid (HSL.out.1 HF.out)
        go_wp2_with fail
        go_ret
        exact ⟨ret_bool (by rw [HR.out, HN.out]), HB2.out.trans (HX.out.mono HB2.out.size)⟩
set_option maxHeartbeats 1000000 in
theorem walk_FnExactPointableNet (a00 : Int) (a01 : ByteArray) (w : World) (w00 : (Lit.int .i64 a00).wf = true) (w01 : a01.size ≤ maxLen) (hB : TB w) :
    Calls Tryd.prog 7 #[.agg #[.int .i64 a00, .string a01]] w fun e w' => e = .returned (.bool true) ∧ Below w.heap.size w w' := by
  have HT := hid hB
  clear hB w00
  by_cases hs : a01.size ≤ 1048576
  · have h0 : decide ((1048576 : Int) - (a01.size : Int) < 0) = false := by simp; omega
    have h1 : decide ((1048576 : Int) < (a01.size : Int)) = false := by simp; omega
    clear w01
    have HS := AllLt.start w; have hn2 := lt2; have hn3 := lt3; have hn4 := lt4; go_enter Tryd.func7, Tryd.ntmps7
    go_wp2_with (first | (go_at_call 28; (with_reducible refine (szNet_on a00 a01 hs _).mono ?_); rintro e w' ⟨rfl, hb⟩; obtain ⟨HB, hz0, hz, hc, hf⟩ := bst (w0 := w) (by go_grown) hb; clear hb; (try simp at hz); (first | ((refine HS.g5 (m := w'.heap.size) ?_ ?_); (focus omega); intro HS) | ((refine HS.g4 (m := w'.heap.size) ?_ ?_); (focus omega); intro HS) | ((refine HS.g3 (m := w'.heap.size) ?_ ?_); (focus omega); intro HS) | ((refine HS.g2 (m := w'.heap.size) ?_ ?_); (focus omega); intro HS) | ((refine HS.g1 (m := w'.heap.size) ?_ ?_); (focus omega); intro HS) | ((refine HS.g0 (m := w'.heap.size) ?_ ?_); (focus omega); intro HS)); have HU := HS; simp only [AllLt] at HU) | (go_at_call 30; (with_reducible refine (toNet_any _ _ _).mono ?_); rintro e w' ⟨rfl, hb⟩; obtain ⟨HB, hz0, hz, hc, hf⟩ := bst (w0 := w) (by go_grown) hb; clear hb; (try simp at hz); (first | ((refine HS.g5 (m := w'.heap.size) ?_ ?_); (focus omega); intro HS) | ((refine HS.g4 (m := w'.heap.size) ?_ ?_); (focus omega); intro HS) | ((refine HS.g3 (m := w'.heap.size) ?_ ?_); (focus omega); intro HS) | ((refine HS.g2 (m := w'.heap.size) ?_ ?_); (focus omega); intro HS) | ((refine HS.g1 (m := w'.heap.size) ?_ ?_); (focus omega); intro HS) | ((refine HS.g0 (m := w'.heap.size) ?_ ?_); (focus omega); intro HS)); have HU := HS; simp only [AllLt] at HU) | (go_at_call 29; (with_reducible refine (sPointableNet_any _ _ _).mono ?_); rintro e w' ⟨rfl, hb⟩; obtain ⟨HB, hz0, hz, hc, hf⟩ := bst (w0 := w) (by go_grown) hb; clear hb; (try simp at hz); (first | ((refine HS.g5 (m := w'.heap.size) ?_ ?_); (focus omega); intro HS) | ((refine HS.g4 (m := w'.heap.size) ?_ ?_); (focus omega); intro HS) | ((refine HS.g3 (m := w'.heap.size) ?_ ?_); (focus omega); intro HS) | ((refine HS.g2 (m := w'.heap.size) ?_ ?_); (focus omega); intro HS) | ((refine HS.g1 (m := w'.heap.size) ?_ ?_); (focus omega); intro HS) | ((refine HS.g0 (m := w'.heap.size) ?_ ?_); (focus omega); intro HS)); have HU := HS; simp only [AllLt] at HU) | (go_at_call 31; (with_reducible refine (iPointableNet_any _ _ _ (HT.out.below (by go_grown))).mono ?_); rintro e w' ⟨rfl, hb⟩; obtain ⟨HB, hz0, hz, hc, hf⟩ := bst (w0 := w) (by go_grown) hb; clear hb; (try simp at hz); (first | ((refine HS.g5 (m := w'.heap.size) ?_ ?_); (focus omega); intro HS) | ((refine HS.g4 (m := w'.heap.size) ?_ ?_); (focus omega); intro HS) | ((refine HS.g3 (m := w'.heap.size) ?_ ?_); (focus omega); intro HS) | ((refine HS.g2 (m := w'.heap.size) ?_ ?_); (focus omega); intro HS) | ((refine HS.g1 (m := w'.heap.size) ?_ ?_); (focus omega); intro HS) | ((refine HS.g0 (m := w'.heap.size) ?_ ?_); (focus omega); intro HS)); have HU := HS; simp only [AllLt] at HU))
    go_ret
    exact ⟨rfl, by (repeat' (first | (with_reducible exact Below.refl _ _) | (with_reducible refine Below.setCell ?_ ?_ _) | (with_reducible refine below_drewN' ?_ _) | (with_reducible refine below_drew' ?_) | (with_reducible refine Below.alloc ?_ ?_ _) | (with_reducible assumption) | go_size))⟩
  · have HS := AllLt.start w; have hn2 := lt2; have hn3 := lt3; have hn4 := lt4; go_enter Tryd.func7, Tryd.ntmps7
    go_wp2_with (first | (go_at_call 28; (with_reducible refine (szNet_off a00 a01 hs w01 _).mono ?_); rintro e w' ⟨rfl, hb⟩; obtain ⟨HB, hz0, hz, hc, hf⟩ := bst (w0 := w) (by go_grown) hb; clear hb; (try simp at hz); (first | ((refine HS.g5 (m := w'.heap.size) ?_ ?_); (focus omega); intro HS) | ((refine HS.g4 (m := w'.heap.size) ?_ ?_); (focus omega); intro HS) | ((refine HS.g3 (m := w'.heap.size) ?_ ?_); (focus omega); intro HS) | ((refine HS.g2 (m := w'.heap.size) ?_ ?_); (focus omega); intro HS) | ((refine HS.g1 (m := w'.heap.size) ?_ ?_); (focus omega); intro HS) | ((refine HS.g0 (m := w'.heap.size) ?_ ?_); (focus omega); intro HS)); have HU := HS; simp only [AllLt] at HU))
    go_ret
    exact ⟨rfl, by (repeat' (first | (with_reducible exact Below.refl _ _) | (with_reducible refine Below.setCell ?_ ?_ _) | (with_reducible refine below_drewN' ?_ _) | (with_reducible refine below_drew' ?_) | (with_reducible refine Below.alloc ?_ ?_ _) | (with_reducible assumption) | go_size))⟩
end
end Go.Proofs.YtmdgkhebefnfeaaDoor.C
