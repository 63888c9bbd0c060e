/- Atomic networks: the exact law. -/
import Derived.Test.YtholffjadnaloaaDoorCloA
import Derived.Test.YtholffjadnaloaaDoorNetC
namespace Go.Proofs.YtholffjadnaloaaDoor.C
open Go.RowKit
set_option linter.unusedVariables false
set_option linter.unusedSimpArgs false
noncomputable def atm (n : Nat) (R : Nat → Nat → Nat) : Bool := (edL n).all fun p => onesN 13 (R p.1 p.2) == 1
noncomputable def atmI (z : Int) (s : ByteArray) : Bool := NV z s && atm z.toNat (mx z.toNat s)
theorem atmI_no {z : Int} {s : ByteArray} (h : NV z s = false) : atmI z s = false := by simp [atmI, h]
theorem atmI_yes {n : Nat} {R : Nat → Nat → Nat} (h : OkR n R) : atmI n (netS n R) = atm n R := by simp [atmI, nv_net h, mx_net h]
theorem atm_prd {n : Nat} {R : Nat → Nat → Nat} : (((prdL R (edL n) : Nat) : Int) == 1) = atm n R := by
  rw [Bool.eq_iff_iff, beq_iff_eq]
  unfold atm
  rw [List.all_eq_true]
  have := prdL_one (R := R) (edL n).length rfl
  constructor
  · intro h p hp
    have h1 : prdL R (edL n) = 1 := by omega
    rw [this.1 h1 p hp]; rfl
  · intro h
    have h1 := this.2 fun p hp => by simpa using h p hp
    omega
theorem clAt_any (r : Nat) (hr : r < 8192) (w : World) :
    Calls Tryd.prog 100 #[.int .i64 ((r : Nat) : Int)] w fun e w' => e = .returned (.bool (onesN 13 r == 1)) ∧ Below w.heap.size w w' := by
  have HC := hid (rcount_any r hr)
  have hq : (((onesN 13 r : Nat) : Int) == 1) = (onesN 13 r == 1) := by
    rw [Bool.eq_iff_iff, beq_iff_eq, beq_iff_eq]; omega
  have HQ := hid hq
  clear hq
  generalize onesN 13 r = o at *
  have HS := AllLt.start w; go_enter Tryd.func100, Tryd.ntmps100
  go_wp2_with (first | (go_at_call 101; (with_reducible refine (HC.out _).mono ?_); rintro e w' ⟨rfl, rfl⟩))
  go_ret
  exact ⟨ret_bool (by first | exact HQ.out | rfl), Below.refl _ _⟩
set_option maxHeartbeats 2000000 in
theorem iIsAtomic_any (z : Int) (s : ByteArray) (w : World) (hT : TB w) :
    Calls Tryd.prog 50 #[.agg #[.int .i64 z, .string s]] w fun e w' => e = .returned (.bool (atmI z s)) ∧ Below w.heap.size w w' := by
  have HT := hid (hT.below ((Below.refl w.heap.size w).alloc (Nat.le_refl _) (.cells #[.int .i64 z, .string s] 26)))
  have HT0 := hid hT
  clear hT
  rcases nv_cases z s with h | ⟨n, R, hR, rfl, rfl⟩
  · have HNV := hid h
    clear h
    have HS := AllLt.start w; go_enter Tryd.func50, Tryd.ntmps50
    go_wp2_with fail
    (with_reducible refine (networkOf_no z s HNV.out _ HT.out).mono ?_)
    rintro e w1 ⟨rfl, hb⟩
    go_wp2_with (first | refine al_net rfl rfl ?_ | refine st_net rfl _ _ rfl rfl rfl (NB.made w1 0 fun _ _ => 0) ?_)
    go_ret
    exact ⟨ret_bool (atmI_no HNV.out).symm, below_setRow ((((Below.refl _ _).alloc (Nat.le_refl _) _).trans (hb.mono (by simp))).alloc (by have := hb.size; simp at this; omega) _) (by have := hb.size; simp at this; omega) _⟩
  · have HN := hid (networkOf_yes n R hR)
    have HCC := hid (atmI_yes hR)
    have h6 := hR.le
    have HLT := hid hR.lt
    have HS := AllLt.start w; go_enter Tryd.func50, Tryd.ntmps50
    go_wp2_with fail
    (with_reducible refine (HN.out _ HT.out).mono ?_)
    rintro e w1 ⟨rfl, hb⟩
    have HB0 := hid (below_setRow ((((Below.refl w.heap.size w).alloc (Nat.le_refl _) (.cells #[.int .i64 (n : Int), .string (netS n R)] 26)).trans (hb.mono (by simp))).alloc (by have := hb.size; simp at this; omega) (.cells (netV 0 fun _ _ => 0) 70)) (show w.heap.size ≤ w1.heap.size by have := hb.size; simp at this; omega) (netV n R))
    have HN2 := hid ((NB.made w1 0 fun _ _ => 0).row n R)
    have HX := hid (fun w hT => allFit_any 100 (fun _ _ => by kernel_rfl) (fun r => onesN 13 r == 1) (fun r w hr _ => clAt_any r hr w) n h6 R HLT.out w hT)
    clear hb hR
    go_upto_region 2 with (first | refine al_net rfl rfl ?_ | refine st_net rfl _ _ rfl rfl rfl (NB.made w1 0 fun _ _ => 0) ?_)
    generalize (w1.alloc (.cells (netV 0 fun _ _ => 0) 70)).setRow w1.heap.size (netV n R) = w2 at *
    have r0 := NB.run HN2.out
    go_wp2_with fail
    (with_reducible refine (HX.out _ (HT0.out.below HB0.out)).mono ?_)
    rintro e w3 ⟨rfl, hb⟩
    have HB3 := hid (HB0.out.trans (hb.mono HB0.out.size))
    clear hb r0
    go_wp2_with fail
    go_ret
    exact ⟨ret_bool HCC.out.symm, HB3.out⟩
set_option maxHeartbeats 1000000 in
theorem sIsAtomic_any (z : Int) (s : ByteArray) (w : World) :
    Calls Tryd.prog 48 #[.agg #[.int .i64 z, .string s]] w fun e w' => e = .returned (.bool (atmI z s)) ∧ Below w.heap.size w w' := by
  rcases nv_cases z s with h | ⟨n, R, hR, rfl, rfl⟩
  · have HNV := hid h
    have HR := hid (atmI_no h)
    clear h
    have HS := AllLt.start w; have hn2 := lt2; have hn3 := lt3; have hn4 := lt4; go_enter Tryd.func48, Tryd.ntmps48
    go_wp2_with (first | (go_at_call 95; (with_reducible refine (sNetValid_any z s _).mono ?_); rintro e w' ⟨rfl, hb⟩; obtain ⟨HB, hz0, hz, hc, hf⟩ := bst (w0 := w) (by go_grown) hb; clear hb; (try simp at hz); (first | ((refine HS.g5 (m := w'.heap.size) ?_ ?_); (focus omega); intro HS) | ((refine HS.g4 (m := w'.heap.size) ?_ ?_); (focus omega); intro HS) | ((refine HS.g3 (m := w'.heap.size) ?_ ?_); (focus omega); intro HS) | ((refine HS.g2 (m := w'.heap.size) ?_ ?_); (focus omega); intro HS) | ((refine HS.g1 (m := w'.heap.size) ?_ ?_); (focus omega); intro HS) | ((refine HS.g0 (m := w'.heap.size) ?_ ?_); (focus omega); intro HS)); have HU := HS; simp only [AllLt] at HU; rw [HNV.out]))
    go_ret
    exact ⟨ret_bool HR.out.symm, by (repeat' (first | (with_reducible exact Below.refl _ _) | (with_reducible refine Below.setCell ?_ ?_ _) | (with_reducible refine below_drewN' ?_ _) | (with_reducible refine below_drew' ?_) | (with_reducible refine Below.alloc ?_ ?_ _) | (with_reducible assumption) | go_size))⟩
  · have HNV := hid (nv_net hR)
    have HCC := hid (ccI_yes hR)
    have HR := hid ((atmI_yes hR).trans atm_prd.symm)
    clear hR
    generalize netS n R = s at *
    generalize prdL R (edL n) = p at *
    have HS := AllLt.start w; have hn2 := lt2; have hn3 := lt3; have hn4 := lt4; go_enter Tryd.func48, Tryd.ntmps48
    go_wp2_with (first | (go_at_call 95; (with_reducible refine (sNetValid_any _ _ _).mono ?_); rintro e w' ⟨rfl, hb⟩; obtain ⟨HB, hz0, hz, hc, hf⟩ := bst (w0 := w) (by go_grown) hb; clear hb; (try simp at hz); (first | ((refine HS.g5 (m := w'.heap.size) ?_ ?_); (focus omega); intro HS) | ((refine HS.g4 (m := w'.heap.size) ?_ ?_); (focus omega); intro HS) | ((refine HS.g3 (m := w'.heap.size) ?_ ?_); (focus omega); intro HS) | ((refine HS.g2 (m := w'.heap.size) ?_ ?_); (focus omega); intro HS) | ((refine HS.g1 (m := w'.heap.size) ?_ ?_); (focus omega); intro HS) | ((refine HS.g0 (m := w'.heap.size) ?_ ?_); (focus omega); intro HS)); have HU := HS; simp only [AllLt] at HU; rw [HNV.out]) | (go_at_call 97; (with_reducible refine (sCountChoices_any _ _ _).mono ?_); rintro e w' ⟨rfl, hb⟩; obtain ⟨HB, hz0, hz, hc, hf⟩ := bst (w0 := w) (by go_grown) hb; clear hb; (try simp at hz); (first | ((refine HS.g5 (m := w'.heap.size) ?_ ?_); (focus omega); intro HS) | ((refine HS.g4 (m := w'.heap.size) ?_ ?_); (focus omega); intro HS) | ((refine HS.g3 (m := w'.heap.size) ?_ ?_); (focus omega); intro HS) | ((refine HS.g2 (m := w'.heap.size) ?_ ?_); (focus omega); intro HS) | ((refine HS.g1 (m := w'.heap.size) ?_ ?_); (focus omega); intro HS) | ((refine HS.g0 (m := w'.heap.size) ?_ ?_); (focus omega); intro HS)); have HU := HS; simp only [AllLt] at HU; rw [HCC.out]))
    go_ret
    exact ⟨ret_bool HR.out.symm, by (repeat' (first | (with_reducible exact Below.refl _ _) | (with_reducible refine Below.setCell ?_ ?_ _) | (with_reducible refine below_drewN' ?_ _) | (with_reducible refine below_drew' ?_) | (with_reducible refine Below.alloc ?_ ?_ _) | (with_reducible assumption) | go_size))⟩
end Go.Proofs.YtholffjadnaloaaDoor.C
