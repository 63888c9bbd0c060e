/- A network with another relation of two nodes: the plain law. -/
import Derived.Test.YtnogdjmciekieabDoorDrwS
import Derived.Test.YtnogdjmciekieabDoorMee
import Derived.Test.YtnogdjmciekieabDoorNetC
import Derived.Test.YtnogdjmciekieabDoorNetZs
import Derived.Test.YtnogdjmciekieabDoorRelU
import Derived.Lib.SliceRun
namespace Go.Proofs.YtnogdjmciekieabDoor.C
open Go.RowKit
set_option linter.unusedVariables false
set_option linter.unusedSimpArgs false
/-- what stands at two nodes behind a put -/
theorem putR_gen (R : Nat → Nat → Nat) (i k r a b : Nat) : putR R i k r a b = if a = k ∧ b = i then turN r else if a = i ∧ b = k then r else R a b := rfl
theorem putR_swap {R : Nat → Nat → Nat} {i k r : Nat} (hne : i ≠ k) (hr : r < 8192) : putR R k i (turN r) = putR R i k r := by
  funext a b
  rw [putR_gen, putR_gen, tt_n hr]
  by_cases h1 : a = i ∧ b = k
  · rw [if_pos h1, if_neg (by omega), if_pos h1]
  · rw [if_neg h1]
    by_cases h2 : a = k ∧ b = i
    · rw [if_pos h2, if_pos h2]
    · rw [if_neg h2, if_neg h2, if_neg h1]
theorem and_le_left' (a b : Nat) : a &&& b &&& a = a &&& b := by rw [Nat.and_comm a b, Nat.and_assoc, Nat.and_self]
theorem lim_within {n : Nat} {R : Nat → Nat → Nat} (hR : OkR n R) {i k r : Nat} (hi : i < n) (hk : k < n) (hne : i ≠ k) (hr : r < 8192) : witB (putR R i k (R i k &&& r)) R (edL n) = true ∧ witB (putR R i k (R i k &&& r)) (putR R i k r) (edL n) = true := by
  have ht := tur_and (hR.lt i k) hr
  constructor
  all_goals
    unfold witB
    rw [List.all_eq_true]
    intro p _
    refine decide_eq_true ?_
    simp only [putR_gen]
    by_cases h1 : p.1 = k ∧ p.2 = i
    · simp only [if_pos h1]
      first | (rw [h1.1, h1.2, hR.tur i k hi hk, ht]; exact and_le_left' _ _) | (rw [ht, Nat.and_assoc, Nat.and_self])
    · simp only [if_neg h1]
      by_cases h2 : p.1 = i ∧ p.2 = k
      · simp only [if_pos h2]
        first | (rw [h2.1, h2.2]; exact and_le_left' _ _) | (rw [Nat.and_assoc, Nat.and_self])
      · simp only [if_neg h2, Nat.and_self]
theorem new_two {W w' : World} {x y : Value} {t : TypeId} (hc : ∀ b o, b < (W.alloc (.cells #[x, y] t)).heap.size → w'.cell? ⟨b, o, none⟩ = (W.alloc (.cells #[x, y] t)).cell? ⟨b, o, none⟩)
    (hf : ∀ b o, b < (W.alloc (.cells #[x, y] t)).heap.size → w'.frozen? ⟨b, o, none⟩ = (W.alloc (.cells #[x, y] t)).frozen? ⟨b, o, none⟩) (hz : (W.alloc (.cells #[x, y] t)).heap.size ≤ w'.heap.size) :
    w'.cell? ⟨W.heap.size, 0, none⟩ = some x ∧ w'.cell? ⟨W.heap.size, 1, none⟩ = some y ∧ w'.frozen? ⟨W.heap.size, 0, none⟩ = false ∧ w'.frozen? ⟨W.heap.size, 1, none⟩ = false ∧ W.heap.size < w'.heap.size := by
  have hl : W.heap.size < (W.alloc (.cells #[x, y] t)).heap.size := by simp
  have hr : (W.alloc (.cells #[x, y] t)).heap[W.heap.size]? = some (.cells #[x, y] t (0, 0)) := heap_alloc_new W _
  refine ⟨?_, ?_, ?_, ?_, Nat.lt_of_lt_of_le hl hz⟩
  · rw [hc _ _ hl, cell_of_row _ _ _ _ _ _ hr]; rfl
  · rw [hc _ _ hl, cell_of_row _ _ _ _ _ _ hr]; rfl
  · rw [hf _ _ hl, frozen_of_row _ _ _ _ _ hr]
  · rw [hf _ _ hl, frozen_of_row _ _ _ _ _ hr]
theorem put_new {B : Nat} {wo wp : World} (h : Below B wo wp) (hB : B ≤ wp.heap.size) (x y : Value) (t : TypeId) :
    (wp.alloc (.cells #[x, y] t)).cell? ⟨wp.heap.size, 0, none⟩ = some x ∧ (wp.alloc (.cells #[x, y] t)).cell? ⟨wp.heap.size, 1, none⟩ = some y ∧ Below B wo (wp.alloc (.cells #[x, y] t)) ∧ wp.heap.size < (wp.alloc (.cells #[x, y] t)).heap.size := by
  have hr : (wp.alloc (.cells #[x, y] t)).heap[wp.heap.size]? = some (.cells #[x, y] t (0, 0)) := heap_alloc_new wp _
  refine ⟨?_, ?_, h.alloc hB _, by simp⟩
  · rw [cell_of_row _ _ _ _ _ _ hr]; rfl
  · rw [cell_of_row _ _ _ _ _ _ hr]; rfl
theorem put_old {B g : Nat} {wo wp : World} {u v : Value} (h : Below B wo wp) (hB : B ≤ g) (y0 : wp.cell? ⟨g, 0, none⟩ = some u) (y1 : wp.cell? ⟨g, 1, none⟩ = some v) (yl : g < wp.heap.size) (x y : Value) :
    ((wp.setCell ⟨g, 0, none⟩ x).setCell ⟨g, 1, none⟩ y).cell? ⟨g, 0, none⟩ = some x ∧ ((wp.setCell ⟨g, 0, none⟩ x).setCell ⟨g, 1, none⟩ y).cell? ⟨g, 1, none⟩ = some y ∧ Below B wo ((wp.setCell ⟨g, 0, none⟩ x).setCell ⟨g, 1, none⟩ y) ∧ g < ((wp.setCell ⟨g, 0, none⟩ x).setCell ⟨g, 1, none⟩ y).heap.size := by
  refine ⟨?_, ?_, (h.setCell hB x).setCell hB y, by simpa using yl⟩
  · simp [go_sem, y0]
  · simp [go_sem, y1]
theorem kept_two {W w' : World} {x y : Value} {g : Nat} (hc : ∀ b o, b < W.heap.size → w'.cell? ⟨b, o, none⟩ = W.cell? ⟨b, o, none⟩)
    (hf : ∀ b o, b < W.heap.size → w'.frozen? ⟨b, o, none⟩ = W.frozen? ⟨b, o, none⟩) (hz : W.heap.size ≤ w'.heap.size)
    (z0 : W.cell? ⟨g, 0, none⟩ = some x) (z1 : W.cell? ⟨g, 1, none⟩ = some y) (f0 : W.frozen? ⟨g, 0, none⟩ = false) (f1 : W.frozen? ⟨g, 1, none⟩ = false) (zl : g < W.heap.size) :
    w'.cell? ⟨g, 0, none⟩ = some x ∧ w'.cell? ⟨g, 1, none⟩ = some y ∧ w'.frozen? ⟨g, 0, none⟩ = false ∧ w'.frozen? ⟨g, 1, none⟩ = false ∧ g < w'.heap.size :=
  ⟨(hc _ _ zl).trans z0, (hc _ _ zl).trans z1, (hf _ _ zl).trans f0, (hf _ _ zl).trans f1, Nat.lt_of_lt_of_le zl hz⟩
theorem put_cases (z : Int) (s : ByteArray) (i k r : Int) :
    ((∀ w : World, Calls Tryd.prog 16 #[.agg #[.int .i64 z, .string s], .int .i64 i, .int .i64 k, .int .i64 r] w fun e w' => e = .returned (.tuple #[.agg #[.int .i64 0, .string ⟨#[]⟩], .bool false]) ∧ Below w.heap.size w w') ∧
      (∀ w : World, TB w → Calls Tryd.prog 15 #[.agg #[.int .i64 z, .string s], .int .i64 i, .int .i64 k, .int .i64 r] w fun e w' => e = .returned (.tuple #[.agg #[.int .i64 0, .string ⟨#[]⟩], .bool false]) ∧ Below w.heap.size w w') ∧
      (∀ w : World, Calls Tryd.prog 18 #[.agg #[.int .i64 z, .string s], .int .i64 i, .int .i64 k, .int .i64 r] w fun e w' => e = .returned (.tuple #[.agg #[.int .i64 0, .string ⟨#[]⟩], .bool false]) ∧ Below w.heap.size w w') ∧
      ∀ w : World, TB w → Calls Tryd.prog 17 #[.agg #[.int .i64 z, .string s], .int .i64 i, .int .i64 k, .int .i64 r] w fun e w' => e = .returned (.tuple #[.agg #[.int .i64 0, .string ⟨#[]⟩], .bool false]) ∧ Below w.heap.size w w') ∨
    ∃ (n : Nat) (R : Nat → Nat → Nat) (i' k' r' : Nat), OkR n R ∧ i' < n ∧ k' < n ∧ i' ≠ k' ∧ r' < 8192 ∧ z = (n : Int) ∧ s = netS n R ∧ i = (i' : Int) ∧ k = (k' : Int) ∧ r = (r' : Int) := by
  rcases nv_cases z s with h | ⟨n, R, hR, rfl, rfl⟩
  · have hn : nodB z s i k = false := by simp [nodB, h]
    exact .inl ⟨sPutRel_nod z s i k r hn, iPutRel_off z s i k r (netWith_no z s h i k r), sLimitRel_nod z s i k r hn, iLimitRel_off z s i k r (netWith_no z s h i k r)⟩
  · rcases hasB_cases n i with h1 | ⟨i, hi, rfl⟩
    · have hn : nodB n (netS n R) i k = false := by simp [nodB, h1]
      have hd : difB n i k = false := by simp [difB, h1]
      exact .inl ⟨sPutRel_nod _ _ i k r hn, iPutRel_off _ _ i k r (netWith_dif n R hR i k r hd), sLimitRel_nod _ _ i k r hn, iLimitRel_off _ _ i k r (netWith_dif n R hR i k r hd)⟩
    · rcases hasB_cases n k with h2 | ⟨k, hk, rfl⟩
      · have hn : nodB n (netS n R) i k = false := by simp [nodB, h2]
        have hd : difB n i k = false := by simp [difB, h2]
        exact .inl ⟨sPutRel_nod _ _ i k r hn, iPutRel_off _ _ i k r (netWith_dif n R hR i k r hd), sLimitRel_nod _ _ i k r hn, iLimitRel_off _ _ i k r (netWith_dif n R hR i k r hd)⟩
      · have hnod : nodB n (netS n R) i k = true := by simp [nodB, hasB_in hi, hasB_in hk, nv_net hR]
        by_cases e : i = k
        · have he : ((i : Int) == (k : Int)) = true := by rw [e]; simp
          have hd : difB n i k = false := by simp [difB, e]
          exact .inl ⟨sPutRel_eq _ _ i k r hnod he, iPutRel_off _ _ i k r (netWith_dif n R hR i k r hd), sLimitRel_eq _ _ i k r hnod he, iLimitRel_off _ _ i k r (netWith_dif n R hR i k r hd)⟩
        · have hik : ((i : Int) == (k : Int)) = false := by rw [beq_eq_false_iff_ne]; omega
          have hki : ((k : Int) == (i : Int)) = false := by rw [beq_eq_false_iff_ne]; omega
          have hd : difB n i k = true := by simp only [difB, hasB_in hi, hasB_in hk, hki]; rfl
          cases hv : rv r
          · exact .inl ⟨sPutRel_rel _ _ i k r hnod hik hv, iPutRel_off _ _ i k r (netWith_rel n R hR i k r hd hv), sLimitRel_rel _ _ i k r hnod hik hv, iLimitRel_off _ _ i k r (netWith_rel n R hR i k r hd hv)⟩
          · have hr := (rv_iff r).1 hv
            obtain ⟨r, rfl⟩ : ∃ q : Nat, r = q := ⟨r.toNat, by omega⟩
            exact .inr ⟨n, R, i, k, r, hR, hi, hk, e, by omega, rfl, rfl, rfl, rfl, rfl⟩
set_option maxHeartbeats 4000000 in
set_option maxRecDepth 100000 in
theorem walk_FnPutRel (a0 : Option Addr) (len0 cap0 : Nat) (z0 : List Int) (w : World) (w0 : IsRow .u8 w a0 len0 cap0 z0) (hB : TB w) :
    Calls Tryd.prog 4 #[.slice a0 len0 cap0] w fun e w' => e = .returned (.bool true) ∧ Below w.heap.size w w' := by
  have HT := hid hB
  clear hB
  by_cases hl : len0 ≤ 1048576
  · have hd : decide ((1048576 : Int) < (len0 : Int)) = false := by simp; omega
    have HS := AllLt.start w; go_enter Tryd.func4, Tryd.ntmps4
    go_wp2_with fail
    refine (DrawPutRel_any _ _ _ _ _ w0).mono ?_
    rintro e wa ⟨z, s, i, k, r, hz, hi, hk, hr, rfl, hb⟩
    have HB0 := hid (hb.alloc hb.size (.cells #[.int .i64 z, .string s] 24))
    have HN0 := hid (Nk.made wa z s)
    clear hz hi hk hr hb w0 HS
    have n0 := HN0.out.c0
    have n1 := HN0.out.c1
    go_wp2_with fail
    generalize hwb : wa.alloc (.cells #[.int .i64 z, .string s] 24) = wb at *
    clear hwb
    rcases put_cases z s i k r with ⟨o1, o2, o3, o4⟩ | ⟨n, R, i, k, r, hR, hi, hk, hne, hr, rfl, rfl, rfl, rfl, rfl⟩

    · have O1 := hid o1
      have O2 := hid o2
      have O3 := hid o3
      have O4 := hid o4
      clear o1 o2 o3 o4
      (with_reducible refine (O2.out _ (HT.out.below HB0.out)).mono ?_)
      rintro e wc1 ⟨rfl, hb⟩
      have HB1 := hid ((HB0.out.trans (hb.mono HB0.out.size)).alloc (Nat.le_trans HB0.out.size hb.size) (.cells #[.int .i64 0, .string ⟨#[]⟩] 24))
      have HN1 := hid (nk_alloc0 (HN0.out.below hb HN0.out.lt) (.cells #[.int .i64 0, .string ⟨#[]⟩] 24))
      have HM1 := hid (Nk.made wc1 0 ⟨#[]⟩)
      clear hb n0 n1
      have n0 := HN1.out.c0
      have n1 := HN1.out.c1
      go_wp2_with fail
      generalize hwx : wc1.alloc (.cells #[.int .i64 0, .string ⟨#[]⟩] 24) = wd1 at *
      clear hwx
      (with_reducible refine (O1.out _).mono ?_)
      rintro e wc2 ⟨rfl, hb⟩
      have HB2 := hid ((HB1.out.trans (hb.mono HB1.out.size)).alloc (Nat.le_trans HB1.out.size hb.size) (.cells #[.int .i64 0, .string ⟨#[]⟩] 24))
      have HN2 := hid (nk_alloc0 (HN1.out.below hb HN1.out.lt) (.cells #[.int .i64 0, .string ⟨#[]⟩] 24))
      have HM2 := hid (nk_alloc0 (HM1.out.below hb HM1.out.lt) (.cells #[.int .i64 0, .string ⟨#[]⟩] 24))
      have HW2 := hid (Nk.made wc2 0 ⟨#[]⟩)
      clear hb n0 n1
      have n0 := HN2.out.c0
      have n1 := HN2.out.c1
      go_wp2_with fail
      generalize hwx : wc2.alloc (.cells #[.int .i64 0, .string ⟨#[]⟩] 24) = wd2 at *
      clear hwx
      (with_reducible refine (O4.out _ (HT.out.below HB2.out)).mono ?_)
      rintro e wc3 ⟨rfl, hb⟩
      have HB3 := hid ((HB2.out.trans (hb.mono HB2.out.size)).alloc (Nat.le_trans HB2.out.size hb.size) (.cells #[.int .i64 0, .string ⟨#[]⟩] 24))
      have HN3 := hid (nk_alloc0 (HN2.out.below hb HN2.out.lt) (.cells #[.int .i64 0, .string ⟨#[]⟩] 24))
      have HM3 := hid (nk_alloc0 (HM2.out.below hb HM2.out.lt) (.cells #[.int .i64 0, .string ⟨#[]⟩] 24))
      have HW3 := hid (nk_alloc0 (HW2.out.below hb HW2.out.lt) (.cells #[.int .i64 0, .string ⟨#[]⟩] 24))
      have HL3 := hid (Nk.made wc3 0 ⟨#[]⟩)
      clear hb n0 n1
      have n0 := HN3.out.c0
      have n1 := HN3.out.c1
      go_wp2_with fail
      generalize hwx : wc3.alloc (.cells #[.int .i64 0, .string ⟨#[]⟩] 24) = wd3 at *
      clear hwx
      (with_reducible refine (O3.out _).mono ?_)
      rintro e wc4 ⟨rfl, hb⟩
      have HB4 := hid ((HB3.out.trans (hb.mono HB3.out.size)).alloc (Nat.le_trans HB3.out.size hb.size) (.cells #[.int .i64 0, .string ⟨#[]⟩] 24))
      have HN4 := hid (nk_alloc0 (HN3.out.below hb HN3.out.lt) (.cells #[.int .i64 0, .string ⟨#[]⟩] 24))
      have HM4 := hid (nk_alloc0 (HM3.out.below hb HM3.out.lt) (.cells #[.int .i64 0, .string ⟨#[]⟩] 24))
      have HW4 := hid (nk_alloc0 (HW3.out.below hb HW3.out.lt) (.cells #[.int .i64 0, .string ⟨#[]⟩] 24))
      have HL4 := hid (nk_alloc0 (HL3.out.below hb HL3.out.lt) (.cells #[.int .i64 0, .string ⟨#[]⟩] 24))
      have HX4 := hid (Nk.made wc4 0 ⟨#[]⟩)
      clear hb n0 n1
      have n0 := HN4.out.c0
      have n1 := HN4.out.c1
      have m0 := HM4.out.c0
      have m1 := HM4.out.c1
      have w0 := HW4.out.c0
      have w1 := HW4.out.c1
      have l0 := HL4.out.c0
      have l1 := HL4.out.c1
      have x0 := HX4.out.c0
      have x1 := HX4.out.c1
      go_wp2
      go_ret
      exact ⟨rfl, HB4.out⟩
    · have I1 := hid (iPutRel_on n R hR i k r hi hk hne hr)
      have I2 := hid (sPutRel_on n R hR i k r hi hk hne hr)
      have I3 := hid (iLimitRel_on n R hR i k r hi hk hne hr)
      have I4 := hid (sLimitRel_on n R hR i k r hi hk hne hr)
      rw [Nat.and_comm r (R i k)] at I4
      have I5 := hid (iPutRel_on n R hR k i (turN r) hk hi (Ne.symm hne) (turN_lt r))
      rw [putR_swap hne hr] at I5
      have hM := putR_ok hR hi hk hne hr
      have hL := putR_ok hR hi hk hne (and_lt (b := r) (hR.lt i k))
      have V1 := hid (fun a b (ha : a < n) (hb : b < n) => rinI_in hM ha hb)
      have V2 := hid (fun a b (ha : a < n) (hb : b < n) => rinI_in hR ha hb)
      have V3 := hid (fun a b (ha : a < n) (hb : b < n) => rinI_in hL ha hb)
      have V4 := hid (nv_net hM)
      have V5 := hid (winB_yes hL hR)
      have V6 := hid (winB_yes hL hM)
      rw [(lim_within hR hi hk hne hr).1] at V5
      rw [(lim_within hR hi hk hne hr).2] at V6
      have VT := hid (turI_n hr)
      have hRlt := hid hR.lt
      have hn6 := hR.le
      generalize netS n (putR R i k r) = sm at *
      generalize netS n (putR R i k (R i k &&& r)) = sl at *
      generalize netS n R = s at *
      clear hR hM hL
      (with_reducible refine (I1.out _ (HT.out.below HB0.out)).mono ?_)
      rintro e wc1 ⟨rfl, hb⟩
      have HB1 := hid ((HB0.out.trans (hb.mono HB0.out.size)).alloc (Nat.le_trans HB0.out.size hb.size) (.cells #[.int .i64 n, .string sm] 24))
      have HN1 := hid (nk_alloc0 (HN0.out.below hb HN0.out.lt) (.cells #[.int .i64 n, .string sm] 24))
      have HM1 := hid (Nk.made wc1 n sm)
      clear hb n0 n1
      have n0 := HN1.out.c0
      have n1 := HN1.out.c1
      go_wp2_with fail
      generalize hwx : wc1.alloc (.cells #[.int .i64 n, .string sm] 24) = wd1 at *
      clear hwx
      (with_reducible refine (I2.out _).mono ?_)
      rintro e wc2 ⟨rfl, hb⟩
      have HB2 := hid ((HB1.out.trans (hb.mono HB1.out.size)).alloc (Nat.le_trans HB1.out.size hb.size) (.cells #[.int .i64 n, .string sm] 24))
      have HN2 := hid (nk_alloc0 (HN1.out.below hb HN1.out.lt) (.cells #[.int .i64 n, .string sm] 24))
      have HM2 := hid (nk_alloc0 (HM1.out.below hb HM1.out.lt) (.cells #[.int .i64 n, .string sm] 24))
      have HW2 := hid (Nk.made wc2 n sm)
      clear hb n0 n1
      have n0 := HN2.out.c0
      have n1 := HN2.out.c1
      go_wp2_with fail
      generalize hwx : wc2.alloc (.cells #[.int .i64 n, .string sm] 24) = wd2 at *
      clear hwx
      (with_reducible refine (I3.out _ (HT.out.below HB2.out)).mono ?_)
      rintro e wc3 ⟨rfl, hb⟩
      have HB3 := hid ((HB2.out.trans (hb.mono HB2.out.size)).alloc (Nat.le_trans HB2.out.size hb.size) (.cells #[.int .i64 n, .string sl] 24))
      have HN3 := hid (nk_alloc0 (HN2.out.below hb HN2.out.lt) (.cells #[.int .i64 n, .string sl] 24))
      have HM3 := hid (nk_alloc0 (HM2.out.below hb HM2.out.lt) (.cells #[.int .i64 n, .string sl] 24))
      have HW3 := hid (nk_alloc0 (HW2.out.below hb HW2.out.lt) (.cells #[.int .i64 n, .string sl] 24))
      have HL3 := hid (Nk.made wc3 n sl)
      clear hb n0 n1
      have n0 := HN3.out.c0
      have n1 := HN3.out.c1
      go_wp2_with fail
      generalize hwx : wc3.alloc (.cells #[.int .i64 n, .string sl] 24) = wd3 at *
      clear hwx
      (with_reducible refine (I4.out _).mono ?_)
      rintro e wc4 ⟨rfl, hb⟩
      have HB4 := hid ((HB3.out.trans (hb.mono HB3.out.size)).alloc (Nat.le_trans HB3.out.size hb.size) (.cells #[.int .i64 n, .string sl] 24))
      have HN4 := hid (nk_alloc0 (HN3.out.below hb HN3.out.lt) (.cells #[.int .i64 n, .string sl] 24))
      have HM4 := hid (nk_alloc0 (HM3.out.below hb HM3.out.lt) (.cells #[.int .i64 n, .string sl] 24))
      have HW4 := hid (nk_alloc0 (HW3.out.below hb HW3.out.lt) (.cells #[.int .i64 n, .string sl] 24))
      have HL4 := hid (nk_alloc0 (HL3.out.below hb HL3.out.lt) (.cells #[.int .i64 n, .string sl] 24))
      have HX4 := hid (Nk.made wc4 n sl)
      clear hb n0 n1
      have n0 := HN4.out.c0
      have n1 := HN4.out.c1
      have m0 := HM4.out.c0
      have m1 := HM4.out.c1
      have w0 := HW4.out.c0
      have w1 := HW4.out.c1
      have l0 := HL4.out.c0
      have l1 := HL4.out.c1
      have x0 := HX4.out.c0
      have x1 := HX4.out.c1
      have q0 : (((n : Int) == (n : Int)) && (sm.toList == sm.toList)) = true := by simp
      have q1 : (((n : Int) == (n : Int)) && (sl.toList == sl.toList)) = true := by simp
      go_wp2_with fail
      clear n0 n1 m0 m1 w0 w1 l0 l1 x0 x1 q0 q1
      generalize hwx : wc4.alloc (.cells #[.int .i64 n, .string sl] 24) = wd4 at *
      clear hwx
      have g1 := HN4.out.lt
      have g2 := HM4.out.lt
      have g3 := HL4.out.lt
      clear HW4 HX4
      generalize wa.heap.size = gn at *
      generalize wc1.heap.size = gm at *
      generalize wc3.heap.size = gl at *
      go_loopw [15] (fun q wr => ∃ a : Nat, a ≤ n ∧ q = .int .i64 a ∧ Hid (Nk wr gn n s) ∧ Hid (Nk wr gm n sm) ∧ Hid (Nk wr gl n sl) ∧ Hid (Below w.heap.size w wr)) (fun q _ => n - (intOf q).toNat)
      case atStart => exact ⟨0, by omega, rfl, HN4, HM4, HL4, HB4⟩
      case round =>
        obtain ⟨a, ha, rfl, JN, JM, JL, JB⟩ := hrel
        clear HN4 HM4 HL4 HB4
        obtain ⟨wo, rfl⟩ : ∃ wo : World, wo = wr := ⟨_, rfl⟩
        have n0 := JN.out.c0
        by_cases han : a < n
        · have hda : decide ((a : Int) < (n : Int)) = true := by simp; omega
          go_wp2_with fail
          clear n0
          go_loopw [16] (fun q wr => ∃ b : Nat, b ≤ n ∧ q = .int .i64 b ∧ Hid (Nk wr gn n s) ∧ Hid (Nk wr gm n sm) ∧ Hid (Nk wr gl n sl) ∧ Hid (Below w.heap.size w wr)) (fun q _ => n - (intOf q).toNat)
          case atStart => exact ⟨0, by omega, rfl, JN, JM, JL, JB⟩
          case round =>
            obtain ⟨b, hb, rfl, JN, JM, JL, JB⟩ := hrel
            obtain ⟨wi, rfl⟩ : ∃ wi : World, wi = wr := ⟨_, rfl⟩
            have n0 := JN.out.c0
            by_cases hbn : b < n
            · have hdb : decide ((b : Int) < (n : Int)) = true := by simp; omega
              have n1 := JN.out.c1
              have m0 := JM.out.c0
              have m1 := JM.out.c1
              have zn := JN.out.lt
              have zm := JM.out.lt
              have C1 := hid (iRelIn_any (n : Int) sm (a : Int) (b : Int))
              rw [V1.out a b han hbn] at C1
              have C2 := hid (iRelIn_any (n : Int) s (a : Int) (b : Int))
              rw [V2.out a b han hbn] at C2
              have C3 := hid (iRelIn_any (n : Int) sl (a : Int) (b : Int))
              rw [V3.out a b han hbn] at C3
              have E1 := putR_gen R i k r a b
              have E3 := putR_gen R i k (R i k &&& r) a b
              have HTi := hid (HT.out.below JB.out)
              generalize putR R i k r a b = x at *
              generalize putR R i k (R i k &&& r) a b = xl at *
              generalize R a b = y at *
              go_wp2_with fail
              go_region_law (first | (go_simp; go_at_call 8; (first | (with_reducible refine (C1.out _ (HTi.out.below (by go_grown))).mono ?_) | (with_reducible refine (C2.out _ (HTi.out.below (by go_grown))).mono ?_)); rintro e w' ⟨rfl, hb⟩; obtain ⟨HX, hz0, hz, hcx, hfx⟩ := bst (w0 := wi) (by go_grown) hb; have p0 := (HX.cell (p := ⟨gn, 0, none⟩) zn).trans n0; have p1 := (HX.cell (p := ⟨gn, 1, none⟩) zn).trans n1; have p2 := (HX.cell (p := ⟨gm, 0, none⟩) zm).trans m0; have p3 := (HX.cell (p := ⟨gm, 1, none⟩) zm).trans m1; clear hb hz0 hz hcx hfx) | fail)
              all_goals
                have HY := hid (JB.out.trans (HX.mono JB.out.size))
                have JN2 := hid (JN.out.below HX zn)
                have JM2 := hid (JM.out.below HX zm)
                have JL2 := hid (JL.out.below HX JL.out.lt)
                clear HX p0 p1 p2 p3 n0 n1 m0 m1
                by_cases h1 : a = i
                · by_cases h2 : b = k
                  · have hx : x = r := by rw [E1, if_neg (by omega), if_pos ⟨h1, h2⟩]
                    clear E1 E3
                    subst hx
                    have fak1 : ¬ (a : Int) = (k : Int) := by omega
                    have fak2 : (a == k) = false := by rw [beq_eq_false_iff_ne]; omega
                    have fak3 : ((a : Int) == (k : Int)) = false := by rw [beq_eq_false_iff_ne]; omega
                    have fak4 : decide (a = k) = false := decide_eq_false (by omega)
                    have fak5 : decide ((a : Int) = (k : Int)) = false := decide_eq_false (by omega)
                    have fak6 : ¬ a = k := by omega
                    have e5 : ((x : Int) != (x : Int)) = false := by simp
                    subst h1
                    subst h2
                    have HZ := HY
                    go_wp2_with fail
                    go_roundw
                    case rel => exact ⟨b + 1, by omega, by go_num, JN2, JM2, JL2, HZ⟩
                    case measure => simp [intOf]; omega
                  · have hx : x = y := by rw [E1, if_neg (by omega), if_neg (by omega)]
                    have hxl : xl = y := by rw [E3, if_neg (by omega), if_neg (by omega)]
                    clear E1 E3
                    subst hx
                    subst hxl
                    have fbk1 : ¬ (b : Int) = (k : Int) := by omega
                    have fbk2 : (b == k) = false := by rw [beq_eq_false_iff_ne]; omega
                    have fbk3 : ((b : Int) == (k : Int)) = false := by rw [beq_eq_false_iff_ne]; omega
                    have fbk4 : decide (b = k) = false := decide_eq_false (by omega)
                    have fbk5 : decide ((b : Int) = (k : Int)) = false := decide_eq_false (by omega)
                    have fbk6 : ¬ b = k := by omega
                    have fak1 : ¬ (a : Int) = (k : Int) := by omega
                    have fak2 : (a == k) = false := by rw [beq_eq_false_iff_ne]; omega
                    have fak3 : ((a : Int) == (k : Int)) = false := by rw [beq_eq_false_iff_ne]; omega
                    have fak4 : decide (a = k) = false := decide_eq_false (by omega)
                    have fak5 : decide ((a : Int) = (k : Int)) = false := decide_eq_false (by omega)
                    have fak6 : ¬ a = k := by omega
                    have e5 : ((xl : Int) != (xl : Int)) = false := by simp
                    subst h1
                    have l0 := JL2.out.c0
                    have l1 := JL2.out.c1
                    go_wp2_with fail
                    (with_reducible refine (C3.out _ (HT.out.below HY.out)).mono ?_)
                    rintro e wz ⟨rfl, hb⟩
                    have JN3 := hid (JN2.out.below hb JN2.out.lt)
                    have JM3 := hid (JM2.out.below hb JM2.out.lt)
                    have JL3 := hid (JL2.out.below hb JL2.out.lt)
                    have HZ := hid (HY.out.trans (hb.mono HY.out.size))
                    clear hb l0 l1
                    go_wp2_with fail
                    go_roundw
                    case rel => exact ⟨b + 1, by omega, by go_num, JN3, JM3, JL3, HZ⟩
                    case measure => simp [intOf]; omega
                · by_cases h3 : a = k
                  · by_cases h4 : b = i
                    · have hx : x = turN r := by rw [E1, if_pos ⟨h3, h4⟩]
                      clear E1 E3
                      subst hx
                      have fai1 : ¬ (a : Int) = (i : Int) := by omega
                      have fai2 : (a == i) = false := by rw [beq_eq_false_iff_ne]; omega
                      have fai3 : ((a : Int) == (i : Int)) = false := by rw [beq_eq_false_iff_ne]; omega
                      have fai4 : decide (a = i) = false := decide_eq_false (by omega)
                      have fai5 : decide ((a : Int) = (i : Int)) = false := decide_eq_false (by omega)
                      have fai6 : ¬ a = i := by omega
                      have e5 : (((turN r : Nat) : Int) != ((turN r : Nat) : Int)) = false := by simp
                      subst h3
                      subst h4
                      go_wp2_with fail
                      (with_reducible refine (iTurnRel_any _ _ (HT.out.below HY.out)).mono ?_)
                      rintro e wz ⟨rfl, hb⟩
                      rw [VT.out]
                      have JN3 := hid (JN2.out.below hb JN2.out.lt)
                      have JM3 := hid (JM2.out.below hb JM2.out.lt)
                      have JL3 := hid (JL2.out.below hb JL2.out.lt)
                      have HZ := hid (HY.out.trans (hb.mono HY.out.size))
                      clear hb
                      go_wp2_with fail
                      go_roundw
                      case rel => exact ⟨b + 1, by omega, by go_num, JN3, JM3, JL3, HZ⟩
                      case measure => simp [intOf]; omega
                    · have hx : x = y := by rw [E1, if_neg (by omega), if_neg (by omega)]
                      have hxl : xl = y := by rw [E3, if_neg (by omega), if_neg (by omega)]
                      clear E1 E3
                      subst hx
                      subst hxl
                      have fai1 : ¬ (a : Int) = (i : Int) := by omega
                      have fai2 : (a == i) = false := by rw [beq_eq_false_iff_ne]; omega
                      have fai3 : ((a : Int) == (i : Int)) = false := by rw [beq_eq_false_iff_ne]; omega
                      have fai4 : decide (a = i) = false := decide_eq_false (by omega)
                      have fai5 : decide ((a : Int) = (i : Int)) = false := decide_eq_false (by omega)
                      have fai6 : ¬ a = i := by omega
                      have fbi1 : ¬ (b : Int) = (i : Int) := by omega
                      have fbi2 : (b == i) = false := by rw [beq_eq_false_iff_ne]; omega
                      have fbi3 : ((b : Int) == (i : Int)) = false := by rw [beq_eq_false_iff_ne]; omega
                      have fbi4 : decide (b = i) = false := decide_eq_false (by omega)
                      have fbi5 : decide ((b : Int) = (i : Int)) = false := decide_eq_false (by omega)
                      have fbi6 : ¬ b = i := by omega
                      have e5 : ((xl : Int) != (xl : Int)) = false := by simp
                      subst h3
                      have l0 := JL2.out.c0
                      have l1 := JL2.out.c1
                      go_wp2_with fail
                      (with_reducible refine (C3.out _ (HT.out.below HY.out)).mono ?_)
                      rintro e wz ⟨rfl, hb⟩
                      have JN3 := hid (JN2.out.below hb JN2.out.lt)
                      have JM3 := hid (JM2.out.below hb JM2.out.lt)
                      have JL3 := hid (JL2.out.below hb JL2.out.lt)
                      have HZ := hid (HY.out.trans (hb.mono HY.out.size))
                      clear hb l0 l1
                      go_wp2_with fail
                      go_roundw
                      case rel => exact ⟨b + 1, by omega, by go_num, JN3, JM3, JL3, HZ⟩
                      case measure => simp [intOf]; omega
                  · have hx : x = y := by rw [E1, if_neg (by omega), if_neg (by omega)]
                    have hxl : xl = y := by rw [E3, if_neg (by omega), if_neg (by omega)]
                    clear E1 E3
                    subst hx
                    subst hxl
                    have fai1 : ¬ (a : Int) = (i : Int) := by omega
                    have fai2 : (a == i) = false := by rw [beq_eq_false_iff_ne]; omega
                    have fai3 : ((a : Int) == (i : Int)) = false := by rw [beq_eq_false_iff_ne]; omega
                    have fai4 : decide (a = i) = false := decide_eq_false (by omega)
                    have fai5 : decide ((a : Int) = (i : Int)) = false := decide_eq_false (by omega)
                    have fai6 : ¬ a = i := by omega
                    have fak1 : ¬ (a : Int) = (k : Int) := by omega
                    have fak2 : (a == k) = false := by rw [beq_eq_false_iff_ne]; omega
                    have fak3 : ((a : Int) == (k : Int)) = false := by rw [beq_eq_false_iff_ne]; omega
                    have fak4 : decide (a = k) = false := decide_eq_false (by omega)
                    have fak5 : decide ((a : Int) = (k : Int)) = false := decide_eq_false (by omega)
                    have fak6 : ¬ a = k := by omega
                    have e5 : ((xl : Int) != (xl : Int)) = false := by simp
                    have l0 := JL2.out.c0
                    have l1 := JL2.out.c1
                    go_wp2_with fail
                    (with_reducible refine (C3.out _ (HT.out.below HY.out)).mono ?_)
                    rintro e wz ⟨rfl, hb⟩
                    have JN3 := hid (JN2.out.below hb JN2.out.lt)
                    have JM3 := hid (JM2.out.below hb JM2.out.lt)
                    have JL3 := hid (JL2.out.below hb JL2.out.lt)
                    have HZ := hid (HY.out.trans (hb.mono HY.out.size))
                    clear hb l0 l1
                    go_wp2_with fail
                    go_roundw
                    case rel => exact ⟨b + 1, by omega, by go_num, JN3, JM3, JL3, HZ⟩
                    case measure => simp [intOf]; omega
            · obtain rfl : b = n := by omega
              have hdb : decide ((b : Int) < (b : Int)) = false := by simp
              go_wp2_with fail
              clear n0
              go_roundw
              case rel => exact ⟨a + 1, by omega, by go_num, JN, JM, JL, JB⟩
              case measure => simp [intOf]; omega
        · obtain rfl : a = n := by omega
          have hda : decide ((a : Int) < (a : Int)) = false := by simp
          have n1 := JN.out.c1
          have HTo := hid (HT.out.below JB.out)
          have zn := JN.out.lt
          go_wp2_with fail
          have hnw := World.new_ne wo ⟨gn, 0, none⟩ n0
          have a0 := (fun o => (nk_alloc0 JN.out o).c0)
          have a1 := (fun o => (nk_alloc0 JN.out o).c1)
          go_region_law (first
            | (go_simp; go_at_call 12; (with_reducible refine (iTurnRel_any _ _ (HTo.out.below (by go_grown))).mono ?_); rintro e wt ⟨rfl, hb⟩; rw [VT.out]; obtain ⟨HX, hz0, hz, hcx, hfx⟩ := bst (w0 := wo) (by go_grown) hb; have p0 := (HX.cell (p := ⟨gn, 0, none⟩) zn).trans n0; have p1 := (HX.cell (p := ⟨gn, 1, none⟩) zn).trans n1; have pa0 := (fun o => Go.Lib.cell?_alloc_some o p0); have pa1 := (fun o => Go.Lib.cell?_alloc_some o p1); have hs9 := HX.size; (try (have zz := new_two hcx hfx hz; obtain ⟨z0, z1, zf0, zf1, zl⟩ := zz)); clear hb hz0 hz hcx hfx)
            | (go_simp; go_at_call 15; (with_reducible refine (I5.out _ (HTo.out.below (by go_grown))).mono ?_); rintro e wp ⟨rfl, hb⟩; obtain ⟨HX, hz0, hz, hcx, hfx⟩ := bst (w0 := wo) (by go_grown) hb; have hs9 := HX.size; (first | (have zz := kept_two hcx hfx hz z0 z1 zf0 zf1 zl; obtain ⟨y0, y1, f0, f1, yl⟩ := zz; clear z0 z1 zf0 zf1) | (have zz := new_two hcx hfx hz; obtain ⟨y0, y1, f0, f1, yl⟩ := zz) | skip); clear hb hz0 hz hcx hfx)
            | fail)
          all_goals
            (first
              | (have yy : wp.cell? ⟨wo.heap.size, 0, none⟩ = some (.int .i64 0) := y0
                 obtain ⟨t0, t1, HZ, zt⟩ := put_old HX (Nat.le_refl _) y0 y1 yl (.int .i64 a) (.string sm)
                 clear y0 y1 f0 f1 yl yy
                 generalize (wp.setCell ⟨wo.heap.size, 0, none⟩ (.int .i64 a)).setCell ⟨wo.heap.size, 1, none⟩ (.string sm) = wz at *
                 obtain ⟨gt, hgt⟩ : ∃ g : Nat, g = wo.heap.size := ⟨_, rfl⟩
                 rw [← hgt] at t0 t1 zt
                 rw [← hgt]
                 clear hgt)
              | (have yy : wp.cell? ⟨wt.heap.size, 0, none⟩ = some (.int .i64 0) := y0
                 obtain ⟨t0, t1, HZ, zt⟩ := put_old HX (by omega) y0 y1 yl (.int .i64 a) (.string sm)
                 clear y0 y1 f0 f1 yl yy
                 generalize (wp.setCell ⟨wt.heap.size, 0, none⟩ (.int .i64 a)).setCell ⟨wt.heap.size, 1, none⟩ (.string sm) = wz at *
                 generalize wt.heap.size = gt at *)
              | (obtain ⟨t0, t1, HZ, zt⟩ := put_new HX hs9 (.int .i64 a) (.string sm) 24
                 generalize wp.alloc (.cells #[.int .i64 a, .string sm] 24) = wz at *
                 generalize wp.heap.size = gt at *))
          all_goals
            have FN := hid (JN.out.below HZ zn)
            have FM := hid (JM.out.below HZ JM.out.lt)
            have FL := hid (JL.out.below HZ JL.out.lt)
            have HF := hid (JB.out.trans (HZ.mono JB.out.size))
            have HTz := hid (HT.out.below HF.out)
            clear HX n0 n1 a0 a1 hnw p0 p1 pa0 pa1 hs9 zn HTo HZ JN JM JL JB
            have n0 := FN.out.c0
            have n1 := FN.out.c1
            have m0 := FM.out.c0
            have m1 := FM.out.c1
            have l0 := FL.out.c0
            have l1 := FL.out.c1
            have zn := FN.out.lt
            have zm := FM.out.lt
            have zl := FL.out.lt
            have C1 := hid (iNetValid_any (a : Int) sm)
            rw [V4.out] at C1
            have C2 := hid (iRelIn_any (a : Int) s (i : Int) (k : Int))
            rw [V2.out i k hi hk] at C2
            have C3 := hid (iRelIn_any (a : Int) sl (i : Int) (k : Int))
            rw [V3.out i k hi hk, putR_gen, if_neg (by omega), if_pos ⟨rfl, rfl⟩] at C3
            have C4 := hid (iWithinNet_any (a : Int) sl (a : Int) s)
            rw [V5.out] at C4
            have C5 := hid (iWithinNet_any (a : Int) sl (a : Int) sm)
            rw [V6.out] at C5
            have QE : (((R i k &&& r : Nat) : Int) == bits .and .i64 (r : Int) ((R i k : Nat) : Int)) = true := by rw [i64_and r _ hr (hRlt.out i k), Nat.and_comm]; simp
            have q0 : (((a : Int) == (a : Int)) && (sm.toList == sm.toList)) = true := by simp
            clear V1 V2 V3 V4 V5 V6
            generalize R i k &&& r = x at *
            generalize R i k = y at *
            go_wp2_with fail
            go_region_held3 (fun wx => wx.cell? ⟨gn, 0, none⟩ = some (.int .i64 (a : Int)) ∧ wx.cell? ⟨gn, 1, none⟩ = some (.string s) ∧ wx.cell? ⟨gm, 0, none⟩ = some (.int .i64 (a : Int)) ∧ wx.cell? ⟨gm, 1, none⟩ = some (.string sm) ∧ wx.cell? ⟨gl, 0, none⟩ = some (.int .i64 (a : Int)) ∧ wx.cell? ⟨gl, 1, none⟩ = some (.string sl) ∧ wx.cell? ⟨gt, 0, none⟩ = some (.int .i64 (a : Int)) ∧ wx.cell? ⟨gt, 1, none⟩ = some (.string sm))
              (first | exact ⟨n0, n1, m0, m1, l0, l1, t0, t1⟩ | exact ⟨(HX.cell (p := ⟨gn, 0, none⟩) zn).trans n0, (HX.cell (p := ⟨gn, 1, none⟩) zn).trans n1, (HX.cell (p := ⟨gm, 0, none⟩) zm).trans m0, (HX.cell (p := ⟨gm, 1, none⟩) zm).trans m1, (HX.cell (p := ⟨gl, 0, none⟩) zl).trans l0, (HX.cell (p := ⟨gl, 1, none⟩) zl).trans l1, (HX.cell (p := ⟨gt, 0, none⟩) zt).trans t0, (HX.cell (p := ⟨gt, 1, none⟩) zt).trans t1⟩ | go_keep)
              (first | (go_at_call 19; (with_reducible refine (C1.out _ (HTz.out.below (by go_grown))).mono ?_); rintro e w' ⟨rfl, hb⟩; obtain ⟨HX, hz0, hz, hcx, hfx⟩ := bst (w0 := wz) (by go_grown) hb; clear hb hz0 hz hcx hfx) | (go_at_call 8; (first | (with_reducible refine (C2.out _ (HTz.out.below (by go_grown))).mono ?_) | (with_reducible refine (C3.out _ (HTz.out.below (by go_grown))).mono ?_)); rintro e w' ⟨rfl, hb⟩; obtain ⟨HX, hz0, hz, hcx, hfx⟩ := bst (w0 := wz) (by go_grown) hb; clear hb hz0 hz hcx hfx) | (go_at_call 13; (first | (with_reducible refine (C4.out _ (HTz.out.below (by go_grown))).mono ?_) | (with_reducible refine (C5.out _ (HTz.out.below (by go_grown))).mono ?_)); rintro e w' ⟨rfl, hb⟩; obtain ⟨HX, hz0, hz, hcx, hfx⟩ := bst (w0 := wz) (by go_grown) hb; clear hb hz0 hz hcx hfx) | fail)
            all_goals
              have HE := hid (HF.out.trans (HX.mono HF.out.size))
              clear HX n0 n1 m0 m1 l0 l1 t0 t1
              go_wp2
              go_ret
              exact ⟨rfl, HE.out⟩

  · have hd : decide ((1048576 : Int) < (len0 : Int)) = true := by simp; omega
    have HS := AllLt.start w; go_enter Tryd.func4, Tryd.ntmps4
    go_wp2
    go_ret
    exact ⟨rfl, Below.refl _ _⟩
end Go.Proofs.YtnogdjmciekieabDoor.C
