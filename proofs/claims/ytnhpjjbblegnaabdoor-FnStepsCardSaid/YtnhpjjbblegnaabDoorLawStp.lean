/- The law of steps. -/
import Derived.Test.YtnhpjjbblegnaabDoorLawTb
import Derived.Test.YtnhpjjbblegnaabDoorLsh
import Derived.Test.YtnhpjjbblegnaabDoorLat4
namespace Go.Proofs.YtnhpjjbblegnaabDoor.C
open Go.RowKit
set_option linter.unusedVariables false
set_option linter.unusedSimpArgs false
/-- Two strings that were drawn. -/
def OutS2 (good : ByteArray → Prop) (w : World) (e : Ending) (w' : World) : Prop := ∃ v u : ByteArray, good v ∧ good u ∧ e = .returned (.tuple #[.string v, .string u]) ∧ Below w.heap.size w w'
theorem DrawComposeBasic_any (a : Option Addr) (len cap : Nat) (zs : List Int) (w : World) (h : IsRow .u8 w a len cap zs) :
    Calls Tryd.prog 67 #[.slice a len cap] w (OutS2 (fun v => v.size ≤ 2) w) := by
  have HS := AllLt.start w; go_enter Tryd.func67, Tryd.ntmps67
  go_wp2_with fail
  refine (l14Open_any _ _ _ _ _ h).mono ?_
  rintro e w1 ⟨rfl, hR, hb⟩
  go_wp2_with fail
  refine (l2One_any _ _ 0 _ hR (by omega)).mono ?_
  rintro e w2 ⟨v, hv, rfl, hR2, hW⟩
  go_wp2_with fail
  refine (l2One_any _ _ (0 + 2) _ hR2 (by omega)).mono ?_
  rintro e w3 ⟨u, hu, rfl, hR3, hW3⟩
  have HF : Hid (∀ e w', e = .returned (.tuple #[.string v, .string u]) → w3 = w' → OutS2 (fun v => v.size ≤ 2) w e w') := hid fun e w' c1 c2 => by
    subst c2
    obtain ⟨_, _, _, hbb⟩ := OutS.of (good := fun v : ByteArray => v.size ≤ 2) hv hb (hW.trans hW3) (e := .returned (.string v)) rfl (w' := w3) rfl
    exact ⟨v, u, hv, hu, c1, hbb⟩
  clear hR hb hR2 hW h hv hu hR3 hW3
  go_wp2
  go_ret2
  exact HF.out _ _ rfl rfl
theorem DrawStepsBetween_any (a : Option Addr) (len cap : Nat) (zs : List Int) (w : World) (h : IsRow .u8 w a len cap zs) :
    Calls Tryd.prog 40 #[.slice a len cap] w (OutS2 (fun v => v.size ≤ 2) w) := by
  have HS := AllLt.start w; go_enter Tryd.func40, Tryd.ntmps40
  go_wp2_with fail
  refine (DrawComposeBasic_any _ _ _ _ _ h).mono ?_
  rintro e w1 ⟨v, u, hv, hu, rfl, hb⟩
  have HF : Hid (∀ e w', e = .returned (.tuple #[.string v, .string u]) → w1 = w' → OutS2 (fun v => v.size ≤ 2) w e w') := hid fun e w' c1 c2 => by subst c2; exact ⟨v, u, hv, hu, c1, hb⟩
  clear hb h hv hu
  go_wp2
  go_ret2
  exact HF.out _ _ rfl rfl
def stM : List Nat := [0, 1, 2, 3, 4, 5, 4, 3, 4, 5, 6, 7, 8, 1, 0, 1, 2, 3, 4, 3, 2, 3, 4, 5, 6, 7, 2, 1, 0, 1, 2, 3, 2, 1, 2, 3, 4, 5, 6, 3, 2, 1, 0, 1, 2, 1, 2, 3, 2, 3, 4, 5, 4, 3, 2, 1, 0, 1, 2, 3, 4, 3, 2, 3, 4, 5, 4, 3, 2, 1, 0, 1, 2, 3, 2, 1, 2, 3, 4, 3, 2, 1, 2, 1, 0, 1, 2, 1, 2, 3, 4, 3, 2, 1, 2, 3, 2, 1, 0, 1, 2, 3, 4, 5, 4, 3, 2, 3, 4, 3, 2, 1, 0, 1, 2, 3, 4, 5, 4, 3, 2, 3, 2, 1, 2, 1, 0, 1, 2, 3, 6, 5, 4, 3, 2, 1, 2, 3, 2, 1, 0, 1, 2, 7, 6, 5, 4, 3, 2, 3, 4, 3, 2, 1, 0, 1, 8, 7, 6, 5, 4, 3, 4, 5, 4, 3, 2, 1, 0]
theorem st_tab {i k : Nat} (hi : i < 13) (hk : k < 13) : stN i k = stM.getD (13 * i + k) 0 := by
  have h : all13 (fun i => all13 fun k => stN i k == stM.getD (13 * i + k) 0) = true := by decide +kernel
  simpa using all13_of (all13_of h hi) hk
theorem st_tri {i j k : Nat} (hi : i < 13) (hj : j < 13) (hk : k < 13) : stN i k ≤ stN i j + stN j k := by
  have h : all13 (fun i => all13 fun j => all13 fun k => decide (stM.getD (13 * i + k) 0 ≤ stM.getD (13 * i + j) 0 + stM.getD (13 * j + k) 0)) = true := by decide +kernel
  rw [st_tab hi hk, st_tab hi hj, st_tab hj hk]
  exact of_decide_eq_true (all13_of (all13_of (all13_of h hi) hj) hk)
theorem st_facts {i k : Nat} (hi : i < 13) (hk : k < 13) : stN k i = stN i k ∧ stN (miN i) (miN k) = stN i k ∧ stN i k ≤ 8 ∧ (stN i k = 0 ↔ i = k) ∧ max (zf i - zf k) (zf k - zf i) + max (zt i - zt k) (zt k - zt i) ≤ (stN i k : Int) := by
  have h : all13 (fun i => all13 fun k => decide (stM.getD (13 * k + i) 0 = stM.getD (13 * i + k) 0 ∧ stM.getD (13 * miN i + miN k) 0 = stM.getD (13 * i + k) 0 ∧ stM.getD (13 * i + k) 0 ≤ 8 ∧ (stM.getD (13 * i + k) 0 = 0 ↔ i = k) ∧ max (zf i - zf k) (zf k - zf i) + max (zt i - zt k) (zt k - zt i) ≤ ((stM.getD (13 * i + k) 0 : Nat) : Int))) = true := by decide +kernel
  rw [st_tab hk hi, st_tab (miN_lt hi) (miN_lt hk), st_tab hi hk]
  exact of_decide_eq_true (all13_of (all13_of h hi) hk)
theorem stI_ltr {i k : Nat} (hi : i < 13) (hk : k < 13) : stI (lixI (ltr i)) (lixI (ltr k)) = (stN i k : Nat) := by rw [lixI_hit (lix_ltr hi), lixI_hit (lix_ltr hk), stI_nat]
set_option maxHeartbeats 8000000 in
set_option maxRecDepth 100000 in
theorem walk_FnSteps (a0 : Option Addr) (len0 cap0 : Nat) (z0 : List Int) (a1 : Option Addr) (len1 cap1 : Nat) (z1 : List Int) (w : World) (w0 : IsRow .u8 w a0 len0 cap0 z0) (w1 : IsRow .u8 w a1 len1 cap1 z1) (hB : TB w) :
    Calls Tryd.prog 7 #[.slice a0 len0 cap0, .slice a1 len1 cap1] w fun e w' => e = .returned (.bool true) ∧ Below w.heap.size w w' := by
  have HT0 := hid hB
  clear hB
  by_cases hl : len0 ≤ 1048576
  · have hd : decide ((1048576 : Int) < (len0 : Int)) = false := by simp; omega
    by_cases hl1 : len1 ≤ 1048576
    · have hd1 : decide ((1048576 : Int) < (len1 : Int)) = false := by simp; omega
      have HS := AllLt.start w; go_enter Tryd.func7, Tryd.ntmps7
      go_wp2_with fail
      refine (DrawStepsBetween_any _ _ _ _ _ w0).mono ?_
      rintro e wa ⟨r, s, hr2, hs2, rfl, hb⟩
      have HT := hid (HT0.out.below hb)
      have Hb := hid hb
      have W1 := hid (w1.below hb)
      have hvr : r.size ≤ 9223372036854775807 := by omega
      have hvs : s.size ≤ 9223372036854775807 := by omega
      clear w0 w1 hb HS hr2 hs2
      by_cases hrs : (∃ i, i < 13 ∧ r = ltr i) ∧ ∃ k, k < 13 ∧ s = ltr k
      · obtain ⟨⟨i, hi, rfl⟩, k, hk, rfl⟩ := hrs
        obtain ⟨f1, f2, f3, f4, f5⟩ := st_facts hi hk
        have E1 := hid (stI_ltr hi hk)
        have E2 := hid ((stI_ltr hk hi).trans (by rw [f1]))
        have E3 := hid ((stI_ltr (miN_lt hi) (miN_lt hk)).trans (by rw [f2]))
        have M1 := hid (miS_hit (lix_ltr hi))
        have M2 := hid (miS_hit (lix_ltr hk))
        have Z1 : Hid (zfI (lixI (ltr i)) = zf i ∧ ztI (lixI (ltr i)) = zt i) := hid ⟨by rw [lixI_hit (lix_ltr hi), zfI_nat], by rw [lixI_hit (lix_ltr hi), ztI_nat]⟩
        have Z2 : Hid (zfI (lixI (ltr k)) = zf k ∧ ztI (lixI (ltr k)) = zt k) := hid ⟨by rw [lixI_hit (lix_ltr hk), zfI_nat], by rw [lixI_hit (lix_ltr hk), ztI_nat]⟩
        have TRI : Hid (∀ j, j < 13 → stN i k ≤ stN i j + stN j k) := hid fun j hj => st_tri hi hj hk
        have P1 : Hid (∀ j, j < 13 → stI (lixI (ltr i)) (lixI (ltr j)) = (stN i j : Nat)) := hid fun j hj => stI_ltr hi hj
        have P2 : Hid (∀ j, j < 13 → stI (lixI (ltr j)) (lixI (ltr k)) = (stN j k : Nat)) := hid fun j hj => stI_ltr hj hk
        have N1 : Hid (∀ j, j < 13 → stN i j ≤ 8) := hid fun j hj => (st_facts hi hj).2.2.1
        have N2 : Hid (∀ j, j < 13 → stN j k ≤ 8) := hid fun j hj => (st_facts hj hk).2.2.1
        have P3 : Hid (stI (lixI (ltr i)) (-1) = -1 ∧ stI (-1) (lixI (ltr k)) = -1) := hid ⟨stI_off2 _, stI_off1 _⟩
        have p0 : decide (((stN i k : Nat) : Int) < 0) = false := by simp
        have heq : (((stN i k : Nat) : Int) == 0) = ((ltr i).toList == (ltr k).toList) := by
          by_cases e : i = k
          · subst e
            rw [same_t rfl]
            have := f4.2 rfl
            simp [this]
          · rw [same_f (fun h => e (by have h1 := lixI_hit (lix_ltr hi); rw [h, lixI_hit (lix_ltr hk)] at h1; omega)), beq_eq_false_iff_ne]
            intro h
            exact e (f4.1 (by omega))
        have zi := zf_in hi
        have zk := zf_in hk
        have yi := zt_in hi
        have yk := zt_in hk
        have hsi : (ltr i).size ≤ 9223372036854775807 := by show 1 ≤ _; omega
        have hsk : (ltr k).size ≤ 9223372036854775807 := by show 1 ≤ _; omega
        obtain ⟨zi1, zi2⟩ := zi
        obtain ⟨zk1, zk2⟩ := zk
        obtain ⟨yi1, yi2⟩ := yi
        obtain ⟨yk1, yk2⟩ := yk
        have h8 : decide (((stN i k : Nat) : Int) ≤ 8) = true := by simp; omega
        have hle : decide (max (zf i - zf k) (zf k - zf i) + max (zt i - zt k) (zt k - zt i) ≤ ((stN i k : Nat) : Int)) = true := by simpa using f5
        clear f1 f2 f4 f5 hi hk hvr hvs
        generalize stN i k = n at *
        generalize zf i = x at *
        generalize zf k = x' at *
        generalize zt i = y at *
        generalize zt k = y' at *
        generalize ltr (miN i) = lmi at *
        generalize ltr (miN k) = lmk at *
        generalize hli : ltr i = li at *
        generalize hlk : ltr k = lk at *
        cases hc : (li.toList == lk.toList)
        all_goals
          rw [hc] at heq
          go_wp2_with (first | (go_at_call 35; (with_reducible refine (iStepsBetween_any _ _ _ (HT.out.below (by go_grown))).mono ?_); rintro e w' ⟨rfl, hb⟩; (first | rw [E1.out]); obtain ⟨HB, hz0, hz, hc, hf⟩ := bst (w0 := wa) (by go_grown) hb; clear hb hz hc hf hz0) | (go_at_call 41; (with_reducible refine (sStepsBetween_any _ _ _ hsi hsk).mono ?_); rintro e w' ⟨rfl, hb⟩; (first | rw [E1.out]); obtain ⟨HB, hz0, hz, hc, hf⟩ := bst (w0 := wa) (by go_grown) hb; clear hb hz hc hf hz0))
          refine (DrawStepsBetween_any _ _ _ _ _ (W1.out.below (by go_grown))).mono ?_
          rintro e wb ⟨t, t2, _, _, rfl, hb⟩
          have HBb : Below wa.heap.size wa wb := (bst (w0 := wa) (by go_grown) hb).1
          have HT2 := hid (HT.out.below HBb)
          have Hb2 := hid (Hb.out.trans (HBb.mono Hb.out.size))
          clear hb HBb W1 HT Hb
          try clear HB
          rcases lix_cases t with ⟨j, hj, rfl, hr⟩ | ⟨_, hr⟩
          · have E4 := hid (P1.out j hj)
            have E5 := hid (P2.out j hj)
            have tri := TRI.out j hj
            have n1 := N1.out j hj
            have n2 := N2.out j hj
            clear hr hj TRI P1 P2 N1 N2
            generalize stN i j = m1 at *
            generalize stN j k = m2 at *
            generalize ltr j = lj at *
            have q1 : decide (((m1 : Nat) : Int) < 0) = false := by simp
            have q2 : decide (((m2 : Nat) : Int) < 0) = false := by simp
            have q3 : decide ((n : Int) ≤ (m1 : Int) + (m2 : Int)) = true := by simp; omega
            go_wp2_with (first | (go_at_call 35; (with_reducible refine (iStepsBetween_any _ _ _ (HT2.out.below (by go_grown))).mono ?_); rintro e w' ⟨rfl, hb⟩; (first | rw [E1.out] | rw [E2.out] | rw [E3.out] | rw [E4.out] | rw [E5.out]); obtain ⟨HB, hz0, hz, hc, hf⟩ := bst (w0 := wb) (by go_grown) hb; clear hb hz hc hf hz0) | (go_at_call 43; (with_reducible refine (iMirrorBasic_any _ _ (HT2.out.below (by go_grown))).mono ?_); rintro e w' ⟨rfl, hb⟩; (first | rw [M1.out] | rw [M2.out]); obtain ⟨HB, hz0, hz, hc, hf⟩ := bst (w0 := wb) (by go_grown) hb; clear hb hz hc hf hz0) | (go_at_call 42; (with_reducible refine (iZonesOf_any _ _ (HT2.out.below (by go_grown))).mono ?_); rintro e w' ⟨rfl, hb⟩; (first | rw [Z1.out.1, Z1.out.2] | rw [Z2.out.1, Z2.out.2]); obtain ⟨HB, hz0, hz, hc, hf⟩ := bst (w0 := wb) (by go_grown) hb; clear hb hz hc hf hz0))
            go_ret
            exact ⟨rfl, Hb2.out.trans (Below.mono (by go_grown) Hb2.out.size)⟩
          · have E4 : Hid (stI (lixI li) (lixI t) = -1) := hid (by rw [lixI_miss hr]; exact P3.out.1)
            have E5 : Hid (stI (lixI t) (lixI lk) = -1) := hid (by rw [lixI_miss hr]; exact P3.out.2)
            clear hr TRI P1 P2 N1 N2
            go_wp2_with (first | (go_at_call 35; (with_reducible refine (iStepsBetween_any _ _ _ (HT2.out.below (by go_grown))).mono ?_); rintro e w' ⟨rfl, hb⟩; (first | rw [E1.out] | rw [E2.out] | rw [E3.out] | rw [E4.out] | rw [E5.out]); obtain ⟨HB, hz0, hz, hc, hf⟩ := bst (w0 := wb) (by go_grown) hb; clear hb hz hc hf hz0) | (go_at_call 43; (with_reducible refine (iMirrorBasic_any _ _ (HT2.out.below (by go_grown))).mono ?_); rintro e w' ⟨rfl, hb⟩; (first | rw [M1.out] | rw [M2.out]); obtain ⟨HB, hz0, hz, hc, hf⟩ := bst (w0 := wb) (by go_grown) hb; clear hb hz hc hf hz0) | (go_at_call 42; (with_reducible refine (iZonesOf_any _ _ (HT2.out.below (by go_grown))).mono ?_); rintro e w' ⟨rfl, hb⟩; (first | rw [Z1.out.1, Z1.out.2] | rw [Z2.out.1, Z2.out.2]); obtain ⟨HB, hz0, hz, hc, hf⟩ := bst (w0 := wb) (by go_grown) hb; clear hb hz hc hf hz0))
            go_ret
            exact ⟨rfl, Hb2.out.trans (Below.mono (by go_grown) Hb2.out.size)⟩
      · have E1 : Hid (stI (lixI r) (lixI s) = -1) := hid (by
          rcases lix_cases r with ⟨i, hi, er, _⟩ | ⟨_, hr⟩
          · rcases lix_cases s with ⟨k, hk, es, _⟩ | ⟨_, hs⟩
            · exact absurd ⟨⟨i, hi, er⟩, k, hk, es⟩ hrs
            · rw [lixI_miss hs, stI_off2]
          · rw [lixI_miss hr, stI_off1])
        clear hrs W1
        go_wp2_with (first | (go_at_call 35; (with_reducible refine (iStepsBetween_any _ _ _ (HT.out.below (by go_grown))).mono ?_); rintro e w' ⟨rfl, hb⟩; (first | rw [E1.out]); obtain ⟨HB, hz0, hz, hc, hf⟩ := bst (w0 := wa) (by go_grown) hb; clear hb hz hc hf hz0) | (go_at_call 41; (with_reducible refine (sStepsBetween_any _ _ _ hvr hvs).mono ?_); rintro e w' ⟨rfl, hb⟩; (first | rw [E1.out]); obtain ⟨HB, hz0, hz, hc, hf⟩ := bst (w0 := wa) (by go_grown) hb; clear hb hz hc hf hz0))
        go_ret
        exact ⟨rfl, Hb.out.trans (Below.mono (by go_grown) Hb.out.size)⟩
    · have hd1 : decide ((1048576 : Int) < (len1 : Int)) = true := by simp; omega
      have HS := AllLt.start w; go_enter Tryd.func7, Tryd.ntmps7
      go_wp2
      go_ret
      exact ⟨rfl, Below.refl _ _⟩
  · have hd : decide ((1048576 : Int) < (len0 : Int)) = true := by simp; omega
    have HS := AllLt.start w; go_enter Tryd.func7, Tryd.ntmps7
    go_wp2
    go_ret
    exact ⟨rfl, Below.refl _ _⟩
end Go.Proofs.YtnhpjjbblegnaabDoor.C
