/- The program: TriangleRel, WhyTriangle, IsClosed. -/
import Derived.Test.YtholffjadnaloaaDoorCloC
import Derived.Test.YtholffjadnaloaaDoorNetX
namespace Go.Proofs.YtholffjadnaloaaDoor.C
open Go.RowKit
set_option linter.unusedVariables false
set_option linter.unusedSimpArgs false
noncomputable def triI (z : Int) (s : ByteArray) (i k b : Int) : Int := if NV z s && hasB z i && hasB z k && hasB z b then (triN (mx z.toNat s) i.toNat k.toNat b.toNat : Nat) else -1
theorem triI_off {z : Int} {s : ByteArray} {i k b : Int} (h : (NV z s && hasB z i && hasB z k && hasB z b) = false) : triI z s i k b = -1 := by simp [triI, h]
theorem triI_in {n : Nat} {R : Nat → Nat → Nat} (h : OkR n R) {i k b : Nat} (hi : i < n) (hk : k < n) (hb : b < n) : triI n (netS n R) i k b = (triN R i k b : Nat) := by
  simp [triI, nv_net h, hasB_in hi, hasB_in hk, hasB_in hb, mx_net h]
noncomputable def whyI (z : Int) (s : ByteArray) (i k : Int) : Int := if NV z s && hasB z i && hasB z k then (match whyO (mx z.toNat s) i.toNat k.toNat z.toNat with | some b => (b : Int) | none => -1) else -2
theorem whyI_off {z : Int} {s : ByteArray} {i k : Int} (h : (NV z s && hasB z i && hasB z k) = false) : whyI z s i k = -2 := by simp [whyI, h]
theorem whyI_in {n : Nat} {R : Nat → Nat → Nat} (h : OkR n R) {i k : Nat} (hi : i < n) (hk : k < n) : whyI n (netS n R) i k = (match whyO R i k n with | some b => (b : Int) | none => -1) := by
  simp [whyI, nv_net h, hasB_in hi, hasB_in hk, mx_net h]
theorem whyI_yes {n : Nat} {R : Nat → Nat → Nat} (h : OkR n R) {i k : Nat} (hi : i < n) (hk : k < n) (hw : whyB R i k n = true) : whyI n (netS n R) i k = (whyN R i k n : Nat) := by
  rw [whyI_in h hi hk]
  unfold whyB at hw
  unfold whyN
  cases e : whyO R i k n with
  | none => rw [e] at hw; cases hw
  | some b => rfl
theorem whyI_none {n : Nat} {R : Nat → Nat → Nat} (h : OkR n R) {i k : Nat} (hi : i < n) (hk : k < n) (hw : whyB R i k n = false) : whyI n (netS n R) i k = -1 := by
  rw [whyI_in h hi hk]
  unfold whyB at hw
  cases e : whyO R i k n with
  | none => rfl
  | some b => rw [e] at hw; cases hw
set_option maxHeartbeats 4000000 in
set_option maxRecDepth 100000 in
theorem iTriangleRel_any (z : Int) (s : ByteArray) (i k b : Int) (w : World) (hT : TB w) :
    Calls Tryd.prog 28 #[.agg #[.int .i64 z, .string s], .int .i64 i, .int .i64 k, .int .i64 b] w fun e w' => e = .returned (.int .i64 (triI z s i k b)) ∧ Below w.heap.size w w' := by
  have HT := hid (hT.below ((Below.refl w.heap.size w).alloc (Nat.le_refl _) (.cells #[.int .i64 z, .string s] 26)))
  have HT0 := hid hT
  clear hT
  rcases nv_cases z s with h | ⟨n, R, hR, rfl, rfl⟩
  · have HNV := hid h
    have HV := hid (triI_off (i := i) (k := k) (b := b) (show (NV z s && hasB z i && hasB z k && hasB z b) = false by simp [h]))
    clear h
    have HS := AllLt.start w; go_enter Tryd.func28, Tryd.ntmps28
    go_wp2_with fail
    (with_reducible refine (networkOf_no z s HNV.out _ HT.out).mono ?_)
    rintro e w1 ⟨rfl, hb⟩
    go_upto_region 2 with (first | refine al_net rfl rfl ?_ | refine st_net rfl _ _ rfl rfl rfl (NB.made w1 0 fun _ _ => 0) ?_)
    go_wp2
    go_ret
    exact ⟨ret_int HV.out.symm, below_setRow ((((Below.refl _ _).alloc (Nat.le_refl _) _).trans (hb.mono (by simp))).alloc (by have := hb.size; simp at this; omega) _) (by have := hb.size; simp at this; omega) _⟩
  · have HN := hid (networkOf_yes n R hR)
    have HOK := hid hR
    clear hR
    have HS := AllLt.start w; go_enter Tryd.func28, Tryd.ntmps28
    go_wp2_with fail
    (with_reducible refine (HN.out _ HT.out).mono ?_)
    rintro e w1 ⟨rfl, hb⟩
    have HB0 := hid (below_setRow ((((Below.refl w.heap.size w).alloc (Nat.le_refl _) (.cells #[.int .i64 (n : Int), .string (netS n R)] 26)).trans (hb.mono (by simp))).alloc (by have := hb.size; simp at this; omega) (.cells (netV 0 fun _ _ => 0) 70)) (show w.heap.size ≤ w1.heap.size by have := hb.size; simp at this; omega) (netV n R))
    have HN2 := hid ((NB.made w1 0 fun _ _ => 0).row n R)
    clear hb
    go_upto_region 2 with (first | refine al_net rfl rfl ?_ | refine st_net rfl _ _ rfl rfl rfl (NB.made w1 0 fun _ _ => 0) ?_)
    generalize (w1.alloc (.cells (netV 0 fun _ _ => 0) 70)).setRow w1.heap.size (netV n R) = w2 at *
    have q0 := HN2.out.cell0
    go_wp2_with fail
    (with_reducible refine (nhas_any n i _).mono ?_)
    rintro e w3 ⟨rfl, hb⟩
    have HN3 := hid (HN2.out.below' hb)
    have HB3 := hid (HB0.out.trans (hb.mono HB0.out.size))
    clear hb q0
    rcases hasB_cases n i with hi | ⟨i, hi, rfl⟩
    · have HV := hid (triI_off (z := n) (s := netS n R) (i := i) (k := k) (b := b) (by simp [hi]))
      rw [hi]
      clear hi
      go_wp2_with fail
      go_ret
      exact ⟨ret_int HV.out.symm, HB3.out⟩
    · rw [hasB_in hi]
      have q0 := HN3.out.cell0
      go_wp2_with fail
      (with_reducible refine (nhas_any n k _).mono ?_)
      rintro e w4 ⟨rfl, hb⟩
      have HN4 := hid (HN3.out.below' hb)
      have HB4 := hid (HB3.out.trans (hb.mono HB3.out.size))
      clear hb q0
      rcases hasB_cases n k with hk | ⟨k, hk, rfl⟩
      · have HV := hid (triI_off (z := n) (s := netS n R) (i := i) (k := k) (b := b) (by simp [hk]))
        rw [hk]
        clear hk
        go_wp2_with fail
        go_ret
        exact ⟨ret_int HV.out.symm, HB4.out⟩
      · rw [hasB_in hk]
        have q0 := HN4.out.cell0
        go_wp2_with fail
        (with_reducible refine (nhas_any n b _).mono ?_)
        rintro e w5 ⟨rfl, hb⟩
        have HN5 := hid (HN4.out.below' hb)
        have HB5 := hid (HB4.out.trans (hb.mono HB4.out.size))
        clear hb q0
        rcases hasB_cases n b with hb | ⟨b, hb, rfl⟩
        · have HV := hid (triI_off (z := n) (s := netS n R) (i := i) (k := k) (b := b) (by simp [hb]))
          rw [hb]
          clear hb
          go_wp2_with fail
          go_ret
          exact ⟨ret_int HV.out.symm, HB5.out⟩
        · rw [hasB_in hb]
          have HV := hid (triI_in HOK.out hi hk hb)
          have h6 := HOK.out.le
          have HT5 := hid (HT0.out.below (HB5.out.trans ((Below.refl _ _).drew)))
          have HLT := hid HOK.out.lt
          have r0 := NB.run HN5.out
          go_wp2_with fail
          go_region_held3 (fun wx => ((do let b ← isAgg 70; Next.value <$> (if b = true then (do let k ← sizeOf 70; Value.agg <$> loadCellsFrom ⟨w1.heap.size, 0, none⟩ 0 k #[]) else Go.load ⟨w1.heap.size, 0, none⟩) : Sem Next)).run Tryd.prog wx = .ok (.value (.agg (netV n R))) wx) (first | exact NB.run (show NB w5.drew _ _ _ from HN5.out) | exact NB.run (HN5.out.below' HX))
            (first | (go_at_call 69; (with_reducible refine (allComp_any _ HT5.out).mono ?_); rintro e w' ⟨⟨o, rfl, ho, hcb⟩, hb'⟩; obtain ⟨HX, hz0, hz, hc, hf⟩ := bst (w0 := w5) (by go_grown) hb'; have HCo := hid hcb; clear hb' hf hc hz hz0 hcb) | (go_at_call 72; (with_reducible refine (triangle_any o n R HLT.out i k b (by omega) (by omega) (by omega) _ HCo.out.tc HCo.out.lt).mono ?_); rintro e w' ⟨rfl, hb'⟩; obtain ⟨HX, hz0, hz, hc, hf⟩ := bst (w0 := w5) (by go_grown) hb'; clear hb' hf hc hz hz0) | fail)
          all_goals
            go_wp2_with fail
            go_ret
            exact ⟨ret_int HV.out.symm, HB5.out.trans (HX.mono HB5.out.size)⟩
set_option maxHeartbeats 4000000 in
set_option maxRecDepth 100000 in
theorem iWhyTriangle_any (z : Int) (s : ByteArray) (i k : Int) (w : World) (hT : TB w) :
    Calls Tryd.prog 26 #[.agg #[.int .i64 z, .string s], .int .i64 i, .int .i64 k] w fun e w' => e = .returned (.int .i64 (whyI z s i k)) ∧ Below w.heap.size w w' := by
  have HT := hid (hT.below ((Below.refl w.heap.size w).alloc (Nat.le_refl _) (.cells #[.int .i64 z, .string s] 26)))
  have HT0 := hid hT
  clear hT
  rcases nv_cases z s with h | ⟨n, R, hR, rfl, rfl⟩
  · have HNV := hid h
    have HV := hid (whyI_off (i := i) (k := k) (show (NV z s && hasB z i && hasB z k) = false by simp [h]))
    clear h
    have HS := AllLt.start w; go_enter Tryd.func26, Tryd.ntmps26
    go_wp2_with fail
    (with_reducible refine (networkOf_no z s HNV.out _ HT.out).mono ?_)
    rintro e w1 ⟨rfl, hb⟩
    go_upto_region 2 with (first | refine al_net rfl rfl ?_ | refine st_net rfl _ _ rfl rfl rfl (NB.made w1 0 fun _ _ => 0) ?_)
    go_wp2
    go_ret
    exact ⟨ret_int HV.out.symm, below_setRow ((((Below.refl _ _).alloc (Nat.le_refl _) _).trans (hb.mono (by simp))).alloc (by have := hb.size; simp at this; omega) _) (by have := hb.size; simp at this; omega) _⟩
  · have HN := hid (networkOf_yes n R hR)
    have HOK := hid hR
    clear hR
    have HS := AllLt.start w; go_enter Tryd.func26, Tryd.ntmps26
    go_wp2_with fail
    (with_reducible refine (HN.out _ HT.out).mono ?_)
    rintro e w1 ⟨rfl, hb⟩
    have HB0 := hid (below_setRow ((((Below.refl w.heap.size w).alloc (Nat.le_refl _) (.cells #[.int .i64 (n : Int), .string (netS n R)] 26)).trans (hb.mono (by simp))).alloc (by have := hb.size; simp at this; omega) (.cells (netV 0 fun _ _ => 0) 70)) (show w.heap.size ≤ w1.heap.size by have := hb.size; simp at this; omega) (netV n R))
    have HN2 := hid ((NB.made w1 0 fun _ _ => 0).row n R)
    clear hb
    go_upto_region 2 with (first | refine al_net rfl rfl ?_ | refine st_net rfl _ _ rfl rfl rfl (NB.made w1 0 fun _ _ => 0) ?_)
    generalize (w1.alloc (.cells (netV 0 fun _ _ => 0) 70)).setRow w1.heap.size (netV n R) = w2 at *
    have q0 := HN2.out.cell0
    go_wp2_with fail
    (with_reducible refine (nhas_any n i _).mono ?_)
    rintro e w3 ⟨rfl, hb⟩
    have HN3 := hid (HN2.out.below' hb)
    have HB3 := hid (HB0.out.trans (hb.mono HB0.out.size))
    clear hb q0
    rcases hasB_cases n i with hi | ⟨i, hi, rfl⟩
    · have HV := hid (whyI_off (z := n) (s := netS n R) (i := i) (k := k) (by simp [hi]))
      rw [hi]
      clear hi
      go_wp2_with fail
      go_ret
      exact ⟨ret_int HV.out.symm, HB3.out⟩
    · rw [hasB_in hi]
      have q0 := HN3.out.cell0
      go_wp2_with fail
      (with_reducible refine (nhas_any n k _).mono ?_)
      rintro e w4 ⟨rfl, hb⟩
      have HN4 := hid (HN3.out.below' hb)
      have HB4 := hid (HB3.out.trans (hb.mono HB3.out.size))
      clear hb q0
      rcases hasB_cases n k with hk | ⟨k, hk, rfl⟩
      · have HV := hid (whyI_off (z := n) (s := netS n R) (i := i) (k := k) (by simp [hk]))
        rw [hk]
        clear hk
        go_wp2_with fail
        go_ret
        exact ⟨ret_int HV.out.symm, HB4.out⟩
      · rw [hasB_in hk]
        have h6 := HOK.out.le
        have HT5 := hid (HT0.out.below (HB4.out.trans ((Below.refl _ _).drew)))
        have HLT := hid HOK.out.lt
        have r0 := NB.run HN4.out
        cases hw : whyB R i k n
        all_goals
          have HW := hid hw
          clear hw
          go_wp2_with fail
          go_region_held3 (fun wx => ((do let b ← isAgg 70; Next.value <$> (if b = true then (do let k ← sizeOf 70; Value.agg <$> loadCellsFrom ⟨w1.heap.size, 0, none⟩ 0 k #[]) else Go.load ⟨w1.heap.size, 0, none⟩) : Sem Next)).run Tryd.prog wx = .ok (.value (.agg (netV n R))) wx) (first | exact NB.run (show NB w4.drew _ _ _ from HN4.out) | exact NB.run (HN4.out.below' HX))
            (first | (go_at_call 69; (with_reducible refine (allComp_any _ HT5.out).mono ?_); rintro e w' ⟨⟨o, rfl, ho, hcb⟩, hb'⟩; obtain ⟨HX, hz0, hz, hc, hf⟩ := bst (w0 := w4) (by go_grown) hb'; have HCo := hid hcb; clear hb' hf hc hz hz0 hcb) | (go_at_call 68; (with_reducible refine (narrower_any o n h6 R HLT.out i k (by omega) (by omega) _ HCo.out.tc HCo.out.lt).mono ?_); rintro e w' ⟨rfl, hb'⟩; rw [HW.out]; obtain ⟨HX, hz0, hz, hc, hf⟩ := bst (w0 := w4) (by go_grown) hb'; clear hb' hf hc hz hz0) | fail)
        · have HV := hid (whyI_none HOK.out hi hk HW.out)
          all_goals
            go_wp2_with fail
            go_ret
            exact ⟨ret_int HV.out.symm, HB4.out.trans (HX.mono HB4.out.size)⟩
        · have HV := hid (whyI_yes HOK.out hi hk HW.out)
          all_goals
            go_wp2_with fail
            go_ret
            exact ⟨ret_int HV.out.symm, HB4.out.trans (HX.mono HB4.out.size)⟩
/-- no node leaves less of a pair -/
noncomputable def clsB (n : Nat) (R : Nat → Nat → Nat) : Bool := !((edL n).any fun p => whyB R p.1 p.2 n)
noncomputable def clsI (z : Int) (s : ByteArray) : Bool := NV z s && clsB z.toNat (mx z.toNat s)
theorem clsI_no {z : Int} {s : ByteArray} (h : NV z s = false) : clsI z s = false := by simp [clsI, h]
theorem clsI_yes {n : Nat} {R : Nat → Nat → Nat} (h : OkR n R) : clsI n (netS n R) = clsB n R := by simp [clsI, nv_net h, mx_net h]
theorem clsB_iff {n : Nat} {R : Nat → Nat → Nat} : clsB n R = true ↔ Qt n R := by
  unfold clsB Qt
  rw [Bool.not_eq_true', List.any_eq_false]
  constructor
  · intro h p hp
    exact whyB_stb.1 (by simpa using h p hp)
  · intro h p hp
    rw [whyB_stb.2 (h p hp)]; simp
set_option maxHeartbeats 2000000 in
set_option maxRecDepth 100000 in
theorem clCl_any (o g a n : Nat) (h6 : n ≤ 6) (R : Nat → Nat → Nat) (hR : ∀ i k, R i k < 8192) (i k : Nat) (hi : i < 6) (hk : k < 6) (w : World) (hC : TC w o) (ho : o < w.heap.size) (hN : NB w g n R) (ha : w.cell? ⟨a, 0, none⟩ = some (.pointer (some ⟨o, 0, none⟩))) :
    Calls Tryd.prog 145 #[.agg #[.int .i64 i, .int .i64 k], .pointer (some ⟨g, 0, none⟩), .pointer (some ⟨a, 0, none⟩)] w fun e w' => e = .returned (.bool (whyB R i k n)) ∧ Below w.heap.size w w' := by
  have HB := hid ((Below.refl w.heap.size w).alloc (Nat.le_refl _) (.cells #[.int .i64 (i : Int), .int .i64 (k : Int)] 168))
  have HN := hid (hN.alloc (.cells #[.int .i64 (i : Int), .int .i64 (k : Int)] 168))
  have HC := hid (show TC (w.alloc (.cells #[.int .i64 (i : Int), .int .i64 (k : Int)] 168)) o from fun x hx => (HB.out.cell (p := ⟨o, x, none⟩) ho).trans (hC x hx))
  have ho2 : o < (w.alloc (.cells #[.int .i64 (i : Int), .int .i64 (k : Int)] 168)).heap.size := by rw [World.size_alloc]; omega
  have a1 := (HB.out.cell (p := ⟨a, 0, none⟩) (cell_lt' ha)).trans ha
  have c0 : (w.alloc (.cells #[.int .i64 (i : Int), .int .i64 (k : Int)] 168)).cell? ⟨w.heap.size, 0, none⟩ = some (.int .i64 (i : Int)) := by simp [go_sem]
  have c1 : (w.alloc (.cells #[.int .i64 (i : Int), .int .i64 (k : Int)] 168)).cell? ⟨w.heap.size, 1, none⟩ = some (.int .i64 (k : Int)) := by simp [go_sem]
  have HR := hid hR
  clear hC ho hN ha hR
  have HS := AllLt.start w; go_enter Tryd.func145, Tryd.ntmps145
  go_upto_region 1 with fail
  generalize w.alloc (.cells #[.int .i64 (i : Int), .int .i64 (k : Int)] 168) = w2 at *
  go_wp2_with (refine ld_net rfl _ rfl rfl HN.out ?_)
  (with_reducible refine (narrower_any o n h6 R HR.out i k hi hk _ HC.out ho2).mono ?_)
  rintro e w3 ⟨rfl, hb⟩
  have HB3 := hid (HB.out.trans (hb.mono HB.out.size))
  clear hb a1 c0 c1
  go_wp2_with fail
  go_ret
  exact ⟨rfl, HB3.out⟩
set_option maxHeartbeats 2000000 in
set_option maxRecDepth 100000 in
theorem isClosed_any (n : Nat) (h6 : n ≤ 6) (R : Nat → Nat → Nat) (hR : ∀ i k, R i k < 8192) (w : World) (hT : TB w) :
    Calls Tryd.prog 102 #[.agg (netV n R)] w fun e w' => e = .returned (.bool (clsB n R)) ∧ Below w.heap.size w w' := by
  have HB := hid ((Below.refl w.heap.size w).alloc (Nat.le_refl _) (.cells (netV n R) 70))
  have HA := hid (NB.made w n R)
  have HT := hid (hT.below HB.out)
  have HR := hid hR
  clear hT hR
  have HS := AllLt.start w; go_enter Tryd.func102, Tryd.ntmps102
  go_upto_region 1 with fail
  generalize w.alloc (.cells (netV n R) 70) = w2 at *
  go_wp2_with fail
  (with_reducible refine (allComp_any _ HT.out).mono ?_)
  rintro e w3 ⟨⟨o, rfl, ho, hcb⟩, hb⟩
  have HB3 := hid ((HB.out.trans (hb.mono HB.out.size)).alloc (Nat.le_trans HB.out.size hb.size) (.cells #[.pointer (some ⟨o, 0, none⟩)] 88))
  have HBa := hid ((Below.refl w3.heap.size w3).alloc (Nat.le_refl _) (.cells #[.pointer (some ⟨o, 0, none⟩)] 88))
  have HC3 := hid (hcb.below HBa.out)
  have HA3 := hid ((HA.out.below' hb).below' HBa.out)
  have HK3 := hid (new_cell w3 (.pointer (some ⟨o, 0, none⟩)) 88)
  clear hb hcb
  go_upto_region 2 with fail
  generalize w3.alloc (.cells #[.pointer (some ⟨o, 0, none⟩)] 88) = w4 at *
  go_wp2_with (refine ld_net rfl _ rfl rfl HA3.out ?_)
  (with_reducible refine (pairs_any n h6 R _).mono ?_)
  rintro e w5 ⟨⟨v, rfl, hown⟩, hb⟩
  have HE := hid (Ps.of_own hown)
  have HB5 := hid (HB3.out.trans (hb.mono HB3.out.size))
  have HC5 := hid (HC3.out.below hb)
  have HA5 := hid (HA3.out.below' hb)
  have HK5 := hid ((hb.cell (p := ⟨w3.heap.size, 0, none⟩) (cell_lt' HK3.out)).trans HK3.out)
  have HX := hid (contP_any 145 (fun _ _ => by kernel_rfl) (.pointer (some ⟨w.heap.size, 0, none⟩)) (.pointer (some ⟨w3.heap.size, 0, none⟩)) (edL n) (fun p => whyB R p.1 p.2 n) v w5 (edL_len h6) HE.out fun j hj w6 hb6 => by
    have he := edL_at hj
    exact clCl_any o w.heap.size w3.heap.size n h6 R HR.out _ _ (by omega) (by omega) w6 (HC5.out.below hb6).tc (HC5.out.below hb6).lt (HA5.out.below' hb6) ((hb6.cell (p := ⟨w3.heap.size, 0, none⟩) (cell_lt' HK5.out)).trans HK5.out))
  clear hown hb
  go_wp2_with fail
  (with_reducible refine HX.out.mono ?_)
  rintro e w6 ⟨rfl, hb⟩
  have HB6 := hid (HB5.out.trans (hb.mono HB5.out.size))
  clear hb
  go_wp2_with fail
  go_ret
  exact ⟨rfl, HB6.out⟩
set_option maxHeartbeats 2000000 in
theorem iIsClosed_any (z : Int) (s : ByteArray) (w : World) (hT : TB w) :
    Calls Tryd.prog 51 #[.agg #[.int .i64 z, .string s]] w fun e w' => e = .returned (.bool (clsI z s)) ∧ Below w.heap.size w w' := by
  have HT := hid (hT.below ((Below.refl w.heap.size w).alloc (Nat.le_refl _) (.cells #[.int .i64 z, .string s] 26)))
  have HT0 := hid hT
  clear hT
  rcases nv_cases z s with h | ⟨n, R, hR, rfl, rfl⟩
  · have HNV := hid h
    clear h
    have HS := AllLt.start w; go_enter Tryd.func51, Tryd.ntmps51
    go_wp2_with fail
    (with_reducible refine (networkOf_no z s HNV.out _ HT.out).mono ?_)
    rintro e w1 ⟨rfl, hb⟩
    go_wp2_with (first | refine al_net rfl rfl ?_ | refine st_net rfl _ _ rfl rfl rfl (NB.made w1 0 fun _ _ => 0) ?_)
    go_ret
    exact ⟨ret_bool (clsI_no HNV.out).symm, below_setRow ((((Below.refl _ _).alloc (Nat.le_refl _) _).trans (hb.mono (by simp))).alloc (by have := hb.size; simp at this; omega) _) (by have := hb.size; simp at this; omega) _⟩
  · have HN := hid (networkOf_yes n R hR)
    have HCC := hid (clsI_yes hR)
    have h6 := hR.le
    have HLT := hid hR.lt
    have HS := AllLt.start w; go_enter Tryd.func51, Tryd.ntmps51
    go_wp2_with fail
    (with_reducible refine (HN.out _ HT.out).mono ?_)
    rintro e w1 ⟨rfl, hb⟩
    have HB0 := hid (below_setRow ((((Below.refl w.heap.size w).alloc (Nat.le_refl _) (.cells #[.int .i64 (n : Int), .string (netS n R)] 26)).trans (hb.mono (by simp))).alloc (by have := hb.size; simp at this; omega) (.cells (netV 0 fun _ _ => 0) 70)) (show w.heap.size ≤ w1.heap.size by have := hb.size; simp at this; omega) (netV n R))
    have HN2 := hid ((NB.made w1 0 fun _ _ => 0).row n R)
    clear hb hR
    go_upto_region 2 with (first | refine al_net rfl rfl ?_ | refine st_net rfl _ _ rfl rfl rfl (NB.made w1 0 fun _ _ => 0) ?_)
    generalize (w1.alloc (.cells (netV 0 fun _ _ => 0) 70)).setRow w1.heap.size (netV n R) = w2 at *
    have r0 := NB.run HN2.out
    go_wp2_with fail
    (with_reducible refine (isClosed_any n h6 R HLT.out _ (HT0.out.below HB0.out)).mono ?_)
    rintro e w3 ⟨rfl, hb⟩
    have HB3 := hid (HB0.out.trans (hb.mono HB0.out.size))
    clear hb r0
    go_wp2_with fail
    go_ret
    exact ⟨ret_bool HCC.out.symm, HB3.out⟩
end Go.Proofs.YtholffjadnaloaaDoor.C
