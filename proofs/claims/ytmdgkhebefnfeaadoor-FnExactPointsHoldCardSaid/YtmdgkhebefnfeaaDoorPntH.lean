/- Models of networks of points: the program, the model, the exact law. -/
import Derived.Test.YtmdgkhebefnfeaaDoorPntX
import Derived.Test.YtmdgkhebefnfeaaDoorTis
namespace Go.Proofs.YtmdgkhebefnfeaaDoor.C
open Go.RowKit
set_option linter.unusedVariables false
set_option linter.unusedSimpArgs false
/-- numbers that are in the orders of a network -/
def hldQ (n : Nat) (N : Nat → Nat → Nat) (f : Nat → Int) : Prop := ∀ i k, i < n → k < n → ph ((N i k : Nat) : Int) (f i) (f k) = true
open Classical in
/-- .. of a text's network -/
noncomputable def phI (z : Int) (s : ByteArray) (m : Nat) (f : Nat → Int) : Bool := decide (PV z s = true ∧ (m : Int) = z ∧ hldQ z.toNat (pmx z.toNat s) f)
theorem phI_no {z : Int} {s : ByteArray} {m : Nat} {f : Nat → Int} (h : PV z s = false) : phI z s m f = false := by
  unfold phI; rw [decide_eq_false_iff_not]; rintro ⟨e, _⟩; rw [h] at e; cases e
theorem phI_len {n : Nat} {s : ByteArray} {m : Nat} {f : Nat → Int} (h : ¬ m = n) : phI n s m f = false := by
  unfold phI; rw [decide_eq_false_iff_not]; rintro ⟨_, e, _⟩; exact h (by omega)
theorem hld_pmx {n : Nat} {N : Nat → Nat → Nat} (h : OkP n N) (f : Nat → Int) : hldQ n (pmx n (pntS n N)) f ↔ hldQ n N f := by
  unfold hldQ
  constructor
  · intro H i k hi hk; have := H i k hi hk; rw [pmx_pnt h hi hk] at this; exact this
  · intro H i k hi hk; rw [pmx_pnt h hi hk]; exact H i k hi hk
theorem phI_yes {n : Nat} {N : Nat → Nat → Nat} {f : Nat → Int} (h : OkP n N) (H : hldQ n N f) : phI n (pntS n N) n f = true := by
  simp only [phI, decide_eq_true_eq, Int.toNat_natCast]
  exact ⟨PV_pnt h, by first | rfl | trivial, (hld_pmx h f).2 H⟩
theorem phI_bad {n : Nat} {N : Nat → Nat → Nat} {f : Nat → Int} {m : Nat} (h : OkP n N) {i k : Nat} (hi : i < n) (hk : k < n) (hb : ph ((N i k : Nat) : Int) (f i) (f k) = false) : phI n (pntS n N) m f = false := by
  unfold phI; rw [decide_eq_false_iff_not]
  rintro ⟨_, _, H⟩
  rw [Int.toNat_natCast] at H
  have := (hld_pmx h f).1 H i k hi hk
  rw [hb] at this
  cases this
set_option maxHeartbeats 4000000 in
set_option maxRecDepth 100000 in
theorem iPointsHold_any (z : Int) (s : ByteArray) (m : Nat) (hm : m ≤ 1048576) (f : Nat → Int) (v : Value) (w : World) (hv : SlB w v m f) (hT : TO w) :
    Calls Tryd.prog 26 #[.agg #[.int .i64 z, .string s], v] w fun e w' => e = .returned (.bool (phI z s m f)) ∧ Below w.heap.size w w' := by
  have HT0 := hid (hT.below ((Below.refl w.heap.size w).alloc (Nat.le_refl _) (.cells #[.int .i64 z, .string s] 26)))
  obtain ⟨av, cv, rfl, _, _⟩ := hv.lens
  rcases PV_cases z s with h | ⟨n, N, hN, rfl, rfl⟩
  · have HC := hid (pof_no z s h _ HT0.out)
    have HV := hid (phI_no (m := m) (f := f) h)
    clear h hT hv
    have HS := AllLt.start w; have hn2 := lt2; have hn3 := lt3; have hn4 := lt4; go_enter Tryd.func26, Tryd.ntmps26
    go_wp2_with (first | (go_at_call 52; (with_reducible refine (HC.out).mono ?_); rintro e w' ⟨rfl, hb⟩; obtain ⟨HB, hz0, hz, hc, hf⟩ := bst (w0 := w) (by go_grown) hb; clear hb; (try simp at hz); (first | ((refine HS.g5 (m := w'.heap.size) ?_ ?_); (focus omega); intro HS) | ((refine HS.g4 (m := w'.heap.size) ?_ ?_); (focus omega); intro HS) | ((refine HS.g3 (m := w'.heap.size) ?_ ?_); (focus omega); intro HS) | ((refine HS.g2 (m := w'.heap.size) ?_ ?_); (focus omega); intro HS) | ((refine HS.g1 (m := w'.heap.size) ?_ ?_); (focus omega); intro HS) | ((refine HS.g0 (m := w'.heap.size) ?_ ?_); (focus omega); intro HS)); have HU := HS; simp only [AllLt] at HU))
    go_ret
    exact ⟨ret_bool HV.out.symm, by (repeat' (first | (with_reducible exact Below.refl _ _) | (with_reducible refine Below.setCell ?_ ?_ _) | (with_reducible refine below_drewN' ?_ _) | (with_reducible refine below_drew' ?_) | (with_reducible refine Below.alloc ?_ ?_ _) | (with_reducible assumption) | go_size))⟩
  · have HC := hid (pof_yes n N hN _ HT0.out)
    have HB0 := hid ((Below.refl w.heap.size w).alloc (Nat.le_refl _) (.cells #[.int .i64 (n : Int), .string (pntS n N)] 26))
    have HSL := hid (hv.below HB0.out)
    have HOK := hid hN
    have h12 := hN.le
    have HLN := hid (fun (h : ¬ m = n) => phI_len (s := pntS n N) (f := f) h)
    have HYE := hid (fun (H : hldQ n N f) => phI_yes hN H)
    have HBD := hid (fun (i k : Nat) (hi : i < n) (hk : k < n) (hb : ph ((N i k : Nat) : Int) (f i) (f k) = false) => phI_bad (m := m) hN hi hk hb)
    clear hT hv
    generalize pntS n N = s at *
    have HS := AllLt.start w; go_enter Tryd.func26, Tryd.ntmps26
    go_wp2_with fail
    (with_reducible refine HC.out.mono ?_)
    rintro e w1 ⟨⟨g, rfl, _, hp⟩, hb⟩
    have HB1 := hid (HB0.out.trans (hb.mono HB0.out.size))
    have HT1 := hid (HT0.out.below hb)
    have HS1 := hid (HSL.out.below hb)
    have HBB := hid ((Below.refl w1.heap.size w1).alloc (Nat.le_refl _) (.cells #[.int .i64 (n : Int), .map (some g)] 65))
    have HP2 := hid (PB.made w1 n g)
    have HN2 := hid (hp.below HBB.out)
    have HT2 := hid (HT1.out.below HBB.out)
    have HS2 := hid (HS1.out.below HBB.out)
    have HB2 := hid (HB1.out.trans (HBB.out.mono HB1.out.size))
    clear hb hp
    go_upto_region 2 with fail
    generalize w1.alloc (.cells #[.int .i64 (n : Int), .map (some g)] 65) = w2 at *
    have q0 := HP2.out.c0
    by_cases hmn : m = n
    · have hq : ((m : Int) != (n : Int)) = false := by rw [hmn]; simp
      subst hmn
      go_wp2_with fail
      clear q0 hq
      go_loopw [28] (fun a wr => ∃ i : Nat, i ≤ m ∧ a = .int .i64 (i : Int) ∧ Hid (∀ x y, x < i → y < m → ph ((N x y : Nat) : Int) (f x) (f y) = true) ∧ Hid (Below w2.heap.size w2 wr)) (fun a _ => m - (intOf a).toNat)
      case atStart => exact ⟨0, by omega, rfl, hid (fun x y hx => by omega), hid (Below.refl _ _)⟩
      case round =>
        obtain ⟨i, hi, rfl, HF, HX⟩ := hrel
        clear HS
        obtain ⟨wi, rfl⟩ : ∃ wi : World, wi = wr := ⟨_, rfl⟩
        by_cases him : i < m
        · have hdi : decide ((i : Int) < (m : Int)) = true := by simp; omega
          have hdj : decide (i < m) = true := by simp; omega
          obtain ⟨av', cv', e1, _, hcl⟩ := (HS2.out.below HX.out).lens
          cases e1
          obtain ⟨bb, oo, rfl, hbb, hci⟩ := hcl i him
          clear hcl
          go_wp2_with fail
          go_loopw [35] (fun a wr => ∃ k : Nat, k ≤ m ∧ a = .int .i64 (k : Int) ∧ Hid (∀ y, y < k → ph ((N i y : Nat) : Int) (f i) (f y) = true) ∧ Hid (Below w2.heap.size w2 wr)) (fun a _ => m - (intOf a).toNat)
          case atStart => exact ⟨0, by omega, rfl, hid (fun y hy => by omega), HX⟩
          case round =>
            obtain ⟨k, hk, rfl, HG, HY⟩ := hrel
            (try clear HS)
            obtain ⟨wj, rfl⟩ : ∃ wj : World, wj = wr := ⟨_, rfl⟩
            by_cases hkm : k < m
            · have hdk : decide ((k : Int) < (m : Int)) = true := by simp; omega
              have hdl : decide (k < m) = true := by simp; omega
              obtain ⟨av', cv', e1, _, hcl⟩ := (HS2.out.below HY.out).lens
              cases e1
              obtain ⟨bb', oo', e2, hbb', hck⟩ := hcl k hkm
              cases e2
              have HPj := hid (HP2.out.below HY.out)
              have p0 := HPj.out.c0
              have p1 := HPj.out.c1
              have HSE := hid (pset_any g m N HOK.out i k him hkm wj (HN2.out.below HY.out) (HT2.out.below HY.out))
              clear hcl hci
              cases hph : ph ((N i k : Nat) : Int) (f i) (f k)
              all_goals
                have HPH := hid hph
                clear hph
                go_wp2_with fail
                (with_reducible refine HSE.out.mono ?_)
                rintro e w5 ⟨rfl, hb⟩
                have HY5 := hid (HY.out.trans (hb.mono HY.out.size))
                clear hb p0 p1
                go_wp2_with (first | (go_at_call 64; (with_reducible refine (iPointHolds_any _ _ _ _).mono ?_); rintro e w' ⟨rfl, rfl⟩; rw [HPH.out]))
              · have HV := hid (HBD.out i k him hkm HPH.out)
                go_ret
                exact ⟨ret_bool HV.out.symm, HB2.out.trans (HY5.out.mono HB2.out.size)⟩
              · have HG2 := hid (show ∀ y, y < k + 1 → ph ((N i y : Nat) : Int) (f i) (f y) = true from fun y hy => by
                  by_cases e : y = k
                  · rw [e]; exact HPH.out
                  · exact HG.out y (by omega))
                go_roundw
                case rel => exact ⟨k + 1, by omega, by go_num, HG2, HY5⟩
                case measure => simp [intOf]; omega
            · obtain rfl : k = m := by omega
              have hdk : decide ((k : Int) < (k : Int)) = false := by simp
              have HF2 := hid (show ∀ x y, x < i + 1 → y < k → ph ((N x y : Nat) : Int) (f x) (f y) = true from fun x y hx hy => by
                by_cases e : x = i
                · rw [e]; exact HG.out y hy
                · exact HF.out x y (by omega) hy)
              go_wp2_with fail
              go_roundw
              case rel => exact ⟨i + 1, by omega, by go_num, HF2, HY⟩
              case measure => simp [intOf]; omega
        · obtain rfl : i = m := by omega
          have hdi : decide ((i : Int) < (i : Int)) = false := by simp
          have HV := hid (HYE.out fun x y hx hy => HF.out x y hx hy)
          go_wp2_with fail
          go_ret
          exact ⟨ret_bool HV.out.symm, HB2.out.trans (HX.out.mono HB2.out.size)⟩
    · have hq : ((m : Int) != (n : Int)) = true := by rw [bne_iff_ne]; omega
      have HV := hid (HLN.out hmn)
      clear hmn
      go_wp2_with fail
      go_ret
      exact ⟨ret_bool HV.out.symm, HB2.out⟩
set_option maxHeartbeats 4000000 in
set_option maxRecDepth 100000 in
theorem sPointsHold_any (z : Int) (s : ByteArray) (m : Nat) (hm : m ≤ 1048576) (f : Nat → Int) (v : Value) (w : World) (hv : SlB w v m f) :
    Calls Tryd.prog 24 #[.agg #[.int .i64 z, .string s], v] w fun e w' => e = .returned (.bool (phI z s m f)) ∧ Below w.heap.size w w' := by
  obtain ⟨av, cv, rfl, _, _⟩ := hv.lens
  rcases PV_cases z s with h | ⟨n, N, hN, rfl, rfl⟩
  · have HQ := hid h
    have HV := hid (phI_no (m := m) (f := f) h)
    clear h hv
    have HS := AllLt.start w; have hn2 := lt2; have hn3 := lt3; have hn4 := lt4; go_enter Tryd.func24, Tryd.ntmps24
    go_wp2_with (first | (go_at_call 16; (with_reducible refine (sPointNetValid_any z s _).mono ?_); rintro e w' ⟨rfl, hb⟩; obtain ⟨HB, hz0, hz, hc, hf⟩ := bst (w0 := w) (by go_grown) hb; clear hb; (try simp at hz); (first | ((refine HS.g5 (m := w'.heap.size) ?_ ?_); (focus omega); intro HS) | ((refine HS.g4 (m := w'.heap.size) ?_ ?_); (focus omega); intro HS) | ((refine HS.g3 (m := w'.heap.size) ?_ ?_); (focus omega); intro HS) | ((refine HS.g2 (m := w'.heap.size) ?_ ?_); (focus omega); intro HS) | ((refine HS.g1 (m := w'.heap.size) ?_ ?_); (focus omega); intro HS) | ((refine HS.g0 (m := w'.heap.size) ?_ ?_); (focus omega); intro HS)); have HU := HS; simp only [AllLt] at HU; rw [HQ.out]))
    go_ret
    exact ⟨ret_bool HV.out.symm, by (repeat' (first | (with_reducible exact Below.refl _ _) | (with_reducible refine Below.setCell ?_ ?_ _) | (with_reducible refine below_drewN' ?_ _) | (with_reducible refine below_drew' ?_) | (with_reducible refine Below.alloc ?_ ?_ _) | (with_reducible assumption) | go_size))⟩
  · have HQ := hid (PV_pnt hN)
    have HB0 := hid ((Below.refl w.heap.size w).alloc (Nat.le_refl _) (.cells #[.int .i64 (n : Int), .string (pntS n N)] 26))
    have HSL := hid (hv.below HB0.out)
    have HK0 := hid (Pk.made w n (pntS n N))
    have HOK := hid hN
    have h12 := hN.le
    have HLN := hid (fun (h : ¬ m = n) => phI_len (s := pntS n N) (f := f) h)
    have HYE := hid (fun (H : hldQ n N f) => phI_yes hN H)
    have HBD := hid (fun (i k : Nat) (hi : i < n) (hk : k < n) (hb : ph ((N i k : Nat) : Int) (f i) (f k) = false) => phI_bad (m := m) hN hi hk hb)
    have HOR := hid (fun (i k : Nat) (hi : i < n) (hk : k < n) w => by
      have := sOrderIn_any n (pntS n N) i k w
      rw [ordI_in hN hi hk] at this
      exact this)
    clear hv
    generalize pntS n N = s at *
    have HS := AllLt.start w; go_enter Tryd.func24, Tryd.ntmps24
    go_upto_region 1 with fail
    generalize w.alloc (.cells #[.int .i64 (n : Int), .string s] 26) = w0 at *
    have q0 := HK0.out.c0
    have q1 := HK0.out.c1
    go_wp2_with fail
    (with_reducible refine (sPointNetValid_any n s _).mono ?_)
    rintro e w1 ⟨rfl, hb⟩
    rw [HQ.out]
    have HB1 := hid (HB0.out.trans (hb.mono HB0.out.size))
    have HK1 := hid (HK0.out.below hb HK0.out.lt)
    have HS1 := hid (HSL.out.below hb)
    clear hb q0 q1
    have q0 := HK1.out.c0
    by_cases hmn : m = n
    · have hq : ((m : Int) != (n : Int)) = false := by rw [hmn]; simp
      subst hmn
      go_wp2_with fail
      clear q0 hq
      go_loopw [5] (fun a wr => ∃ i : Nat, i ≤ m ∧ a = .int .i64 (i : Int) ∧ Hid (∀ x y, x < i → y < m → ph ((N x y : Nat) : Int) (f x) (f y) = true) ∧ Hid (Below w1.heap.size w1 wr)) (fun a _ => m - (intOf a).toNat)
      case atStart => exact ⟨0, by omega, rfl, hid (fun x y hx => by omega), hid (Below.refl _ _)⟩
      case round =>
        obtain ⟨i, hi, rfl, HF, HX⟩ := hrel
        clear HS
        obtain ⟨wi, rfl⟩ : ∃ wi : World, wi = wr := ⟨_, rfl⟩
        have q0 := (HK1.out.below HX.out HK1.out.lt).c0
        by_cases him : i < m
        · have hdi : decide ((i : Int) < (m : Int)) = true := by simp; omega
          go_wp2_with fail
          clear q0
          go_loopw [6] (fun a wr => ∃ k : Nat, k ≤ m ∧ a = .int .i64 (k : Int) ∧ Hid (∀ y, y < k → ph ((N i y : Nat) : Int) (f i) (f y) = true) ∧ Hid (Below w1.heap.size w1 wr)) (fun a _ => m - (intOf a).toNat)
          case atStart => exact ⟨0, by omega, rfl, hid (fun y hy => by omega), HX⟩
          case round =>
            obtain ⟨k, hk, rfl, HG, HY⟩ := hrel
            (try clear HS)
            obtain ⟨wj, rfl⟩ : ∃ wj : World, wj = wr := ⟨_, rfl⟩
            have HKj := hid (HK1.out.below HY.out HK1.out.lt)
            have q0 := HKj.out.c0
            have q1 := HKj.out.c1
            by_cases hkm : k < m
            · have hdk : decide ((k : Int) < (m : Int)) = true := by simp; omega
              have hdl : decide (k < m) = true := by simp; omega
              have hdj : decide (i < m) = true := by simp; omega
              obtain ⟨av', cv', e1, _, hcl⟩ := (HS1.out.below HY.out).lens
              cases e1
              obtain ⟨bb, oo, rfl, hbb, hci⟩ := hcl i him
              obtain ⟨bb', oo', e2, hbb', hck⟩ := hcl k hkm
              cases e2
              have hkl := HKj.out.lt
              have HON := hid (HOR.out i k him hkm)
              clear hcl
              cases hph : ph ((N i k : Nat) : Int) (f i) (f k)
              all_goals
                have HPH := hid hph
                clear hph
                go_wp2_with fail
                go_region_held3 (fun wx => wx.cell? ⟨w.heap.size, 0, none⟩ = some (.int .i64 (m : Int)) ∧ wx.cell? ⟨w.heap.size, 1, none⟩ = some (.string s) ∧ wx.cell? ⟨bb, oo + i, none⟩ = some (.int .i64 (f i)) ∧ wx.cell? ⟨bb, oo + k, none⟩ = some (.int .i64 (f k))) (first | exact ⟨q0, q1, hci, hck⟩ | exact ⟨by rw [HZ.cell (p := ⟨w.heap.size, 0, none⟩) hkl]; exact q0, by rw [HZ.cell (p := ⟨w.heap.size, 1, none⟩) hkl]; exact q1, by rw [HZ.cell (p := ⟨bb, oo + i, none⟩) hbb]; exact hci, by rw [HZ.cell (p := ⟨bb, oo + k, none⟩) hbb]; exact hck⟩)
                  (first
                     | (go_at_call 19; (with_reducible refine (HON.out _).mono ?_); rintro e w5 ⟨rfl, hb'⟩; obtain ⟨HZ, hz0', hz', hc', hf'⟩ := bst (w0 := wj) (by go_grown) hb'; clear hb' hf' hc' hz' hz0')
                     | (go_at_call 63; (with_reducible refine (sPointHolds_any _ _ _ _).mono ?_); rintro e w6 ⟨rfl, rfl⟩; rw [HPH.out]) | fail)
              · have HV := hid (HBD.out i k him hkm HPH.out)
                go_wp2_with fail
                go_ret
                exact ⟨ret_bool HV.out.symm, HB1.out.trans (HY.out.mono HB1.out.size |>.trans (HZ.mono (Nat.le_trans HB1.out.size HY.out.size)))⟩
              · have HG2 := hid (show ∀ y, y < k + 1 → ph ((N i y : Nat) : Int) (f i) (f y) = true from fun y hy => by
                  by_cases e : y = k
                  · rw [e]; exact HPH.out
                  · exact HG.out y (by omega))
                have HYZ := hid (HY.out.trans (HZ.mono HY.out.size))
                go_wp2_with fail
                go_roundw
                case rel => exact ⟨k + 1, by omega, by go_num, HG2, HYZ⟩
                case measure => simp [intOf]; omega
            · obtain rfl : k = m := by omega
              have hdk : decide ((k : Int) < (k : Int)) = false := by simp
              have HF2 := hid (show ∀ x y, x < i + 1 → y < k → ph ((N x y : Nat) : Int) (f x) (f y) = true from fun x y hx hy => by
                by_cases e : x = i
                · rw [e]; exact HG.out y hy
                · exact HF.out x y (by omega) hy)
              go_wp2_with fail
              go_roundw
              case rel => exact ⟨i + 1, by omega, by go_num, HF2, HY⟩
              case measure => simp [intOf]; omega
        · obtain rfl : i = m := by omega
          have hdi : decide ((i : Int) < (i : Int)) = false := by simp
          have HV := hid (HYE.out fun x y hx hy => HF.out x y hx hy)
          go_wp2_with fail
          go_ret
          exact ⟨ret_bool HV.out.symm, HB1.out.trans (HX.out.mono HB1.out.size)⟩
    · have hq : ((m : Int) != (n : Int)) = true := by rw [bne_iff_ne]; omega
      have HV := hid (HLN.out hmn)
      clear hmn
      go_wp2_with fail
      go_ret
      exact ⟨ret_bool HV.out.symm, HB1.out⟩
def Lk (w : World) (g : Nat) (z : Int) (s : ByteArray) : Prop := w.heap[g]? = some (.cells #[.int .i64 z, .string s] 23 (0, 0))
section
variable {w w' : World} {g : Nat} {z : Int} {s : ByteArray}
theorem Lk.lt (h : Lk w g z s) : g < w.heap.size := (Array.getElem?_eq_some_iff.1 h).1
theorem Lk.made (w : World) (z : Int) (s : ByteArray) : Lk (w.alloc (.cells #[.int .i64 z, .string s] 23)) w.heap.size z s := heap_alloc_new w _
theorem Lk.below (h : Lk w g z s) (hb : Below w.heap.size w w') : Lk w' g z s := (hb.block g h.lt).trans h
theorem Lk.c0 (h : Lk w g z s) : w.cell? ⟨g, 0, none⟩ = some (.int .i64 z) := by rw [cell_of_row w g _ _ _ _ h]; rfl
theorem Lk.c1 (h : Lk w g z s) : w.cell? ⟨g, 1, none⟩ = some (.string s) := by rw [cell_of_row w g _ _ _ _ h]; rfl
end
set_option maxHeartbeats 2000000 in
theorem walk_FnExactPointsHold (a00 : Int) (a01 : ByteArray) (a1 : Option Addr) (len1 cap1 : Nat) (z1 : List Int) (w : World) (w00 : (Lit.int .i64 a00).wf = true) (w01 : a01.size ≤ maxLen) (w1 : IsRow .i64 w a1 len1 cap1 z1) (hT : TO w) :
    Calls Tryd.prog 6 #[.agg #[.int .i64 a00, .string a01], .slice a1 len1 cap1] w fun e w' => e = .returned (.bool true) ∧ Below w.heap.size w w' := by
  have HT0 := hid hT
  clear hT w00
  by_cases hl : len1 ≤ 1048576
  · have hd : decide ((1048576 : Int) < (len1 : Int)) = false := by simp; omega
    by_cases hs : a01.size ≤ 1048576
    · have h0 : decide ((1048576 : Int) - (a01.size : Int) < 0) = false := by simp; omega
      have h1 : decide ((1048576 : Int) < (a01.size : Int)) = false := by simp; omega
      have HA : Hid (∀ w' : World, Below w.heap.size w w' → Calls Tryd.prog 25 #[.slice a1 len1 cap1] w' (NewS w' len1 (fun i => z1.getD i 0))) := hid fun w' hb => by
        obtain ⟨h1, h2⟩ := (w1.below hb).at
        exact toIntS_any a1 cap1 len1 _ hl w' h1 h2
      clear w01 w1
      generalize (fun i => z1.getD i 0) = f at *
      have HSZ := hid (fun w => szPN_on a00 a01 hs w)
      have HTO := hid (fun w => toPN_any a00 a01 w)
      have HSP := hid (sPointsHold_any a00 a01 len1 hl f)
      have HIP := hid (iPointsHold_any a00 a01 len1 hl f)
      generalize phI a00 a01 len1 f = r at *
      have HB0 := hid ((Below.refl w.heap.size w).alloc (Nat.le_refl _) (.cells #[.int .i64 a00, .string a01] 23))
      have HK0 := hid (Lk.made w a00 a01)
      have HS := AllLt.start w; go_enter Tryd.func6, Tryd.ntmps6
      go_upto_region 1 with fail
      generalize w.alloc (.cells #[.int .i64 a00, .string a01] 23) = w0 at *
      have q0 := HK0.out.c0
      have q1 := HK0.out.c1
      go_wp2_with fail
      (with_reducible refine (HSZ.out _).mono ?_)
      rintro e w3 ⟨rfl, hb⟩
      have HK3 := hid (HK0.out.below hb)
      have HB3 := hid (HB0.out.trans (hb.mono HB0.out.size))
      clear hb q0 q1
      have q0 := HK3.out.c0
      have q1 := HK3.out.c1
      go_wp2_with fail
      (with_reducible refine (HTO.out _).mono ?_)
      rintro e w4 ⟨rfl, hb⟩
      have HK4 := hid (HK3.out.below hb)
      have HB4 := hid (HB3.out.trans (hb.mono HB3.out.size))
      clear hb q0 q1
      go_wp2_with fail
      refine (HA.out _ HB4.out).mono ?_
      rintro e w5 ⟨v1, rfl, hn⟩
      have HS5 := hid hn.slB.2
      have HK5 := hid (HK4.out.below hn.1)
      have HB5 := hid (HB4.out.trans (hn.1.mono HB4.out.size))
      obtain ⟨av, cv, rfl, _⟩ := hn.slB.2.lens
      clear hn
      go_wp2_with fail
      (with_reducible refine (HSP.out _ _ HS5.out).mono ?_)
      rintro e w6 ⟨rfl, hb⟩
      have HK6 := hid (HK5.out.below hb)
      have HB6 := hid (HB5.out.trans (hb.mono HB5.out.size))
      clear hb
      go_wp2_with fail
      refine (HA.out _ HB6.out).mono ?_
      rintro e w7 ⟨v3, rfl, hn⟩
      have HS7 := hid hn.slB.2
      have HC7 := hid hn.cases.2
      have HK7 := hid (HK6.out.below hn.1)
      have HB7 := hid (HB6.out.trans (hn.1.mono HB6.out.size))
      obtain ⟨a3, c3, rfl, _⟩ := hn.slB.2.lens
      clear hn
      have q0 := HK7.out.c0
      have q1 := HK7.out.c1
      go_wp2_with fail
      (with_reducible refine (HTO.out _).mono ?_)
      rintro e w8 ⟨rfl, hb⟩
      have HS8 := hid (HS7.out.below hb)
      have HX8 := hid hb
      have HB8 := hid (HB7.out.trans (hb.mono HB7.out.size))
      clear hb q0 q1
      go_wp2_with fail
      (with_reducible refine (HIP.out _ _ HS8.out (HT0.out.below HB8.out)).mono ?_)
      rintro e w9 ⟨rfl, hb⟩
      have HX9 := hid (HX8.out.trans (hb.mono HX8.out.size))
      have HB9 := hid (HB8.out.trans (hb.mono HB8.out.size))
      clear hb
      go_wp2_with fail
      refine (HA.out _ HB9.out).mono ?_
      rintro e w10 ⟨v5, rfl, hn⟩
      have HB10 := hid (HB9.out.trans (hn.1.mono HB9.out.size))
      have hfin : Sl w10 (.slice a3 len1 c3) len1 f ∧ Sl w10 v5 len1 f := by
        constructor
        · rcases HC7.out with ⟨hz, _, _, h⟩ | ⟨hp, b, cap, h1, h2, h3, h4⟩
          · exact .inl ⟨hz, _, _, by rw [hz]⟩
          · rw [h1]
            exact ((h3.below HX9.out).below hn.1).sl
        · rcases hn.cases.2 with ⟨hz, a, c, h⟩ | ⟨hp, b, cap, h1, h2, h3, h4⟩
          · exact .inl ⟨hz, a, c, h⟩
          · rw [h1]; exact h3.sl
      have HF := hid (eqIntS_same _ _ len1 f _ (by omega) hfin.1 hfin.2)
      obtain ⟨a5, c5, rfl, _⟩ := hn.slB.2.lens
      clear hfin hn
      go_wp2_with fail
      refine HF.out.mono ?_
      rintro e _ ⟨rfl, m, rfl⟩
      go_wp2
      go_ret
      exact ⟨rfl, HB10.out.trans (below_drewN _ _ _)⟩
    · have HS := AllLt.start w; have hn2 := lt2; have hn3 := lt3; have hn4 := lt4; go_enter Tryd.func6, Tryd.ntmps6
      go_wp2_with (first | (go_at_call 15; (with_reducible refine (szPN_off a00 a01 hs w01 _).mono ?_); rintro e w' ⟨rfl, hb⟩; obtain ⟨HB, hz0, hz, hc, hf⟩ := bst (w0 := w) (by go_grown) hb; clear hb; (try simp at hz); (first | ((refine HS.g5 (m := w'.heap.size) ?_ ?_); (focus omega); intro HS) | ((refine HS.g4 (m := w'.heap.size) ?_ ?_); (focus omega); intro HS) | ((refine HS.g3 (m := w'.heap.size) ?_ ?_); (focus omega); intro HS) | ((refine HS.g2 (m := w'.heap.size) ?_ ?_); (focus omega); intro HS) | ((refine HS.g1 (m := w'.heap.size) ?_ ?_); (focus omega); intro HS) | ((refine HS.g0 (m := w'.heap.size) ?_ ?_); (focus omega); intro HS)); have HU := HS; simp only [AllLt] at HU))
      go_ret
      exact ⟨rfl, by (repeat' (first | (with_reducible exact Below.refl _ _) | (with_reducible refine Below.setCell ?_ ?_ _) | (with_reducible refine below_drewN' ?_ _) | (with_reducible refine below_drew' ?_) | (with_reducible refine Below.alloc ?_ ?_ _) | (with_reducible assumption) | go_size))⟩
  · have hd : decide ((1048576 : Int) < (len1 : Int)) = true := by simp; omega
    have HS := AllLt.start w; have hn2 := lt2; have hn3 := lt3; have hn4 := lt4; go_enter Tryd.func6, Tryd.ntmps6
    go_wp2
    go_ret
    exact ⟨rfl, by (repeat' (first | (with_reducible exact Below.refl _ _) | (with_reducible refine Below.setCell ?_ ?_ _) | (with_reducible refine below_drewN' ?_ _) | (with_reducible refine below_drew' ?_) | (with_reducible refine Below.alloc ?_ ?_ _) | (with_reducible assumption) | go_size))⟩
end Go.Proofs.YtmdgkhebefnfeaaDoor.C
