/- Chapter 4's laws: relations told by orders of ends, by bits. No program is named here. -/
import Derived.Test.YtmdgkhebefnfeaaDoorLatQ
namespace Go.Proofs.YtmdgkhebefnfeaaDoor.C
open Go.RowKit
set_option linter.unusedVariables false
set_option linter.unusedSimpArgs false
theorem hs_bor {a b o : Int} (ha : pv a = true) (hb : Ord b) (ho : Ord o) : hs (bor a b) o = (hs a o || decide (b = o)) := by
  rcases pv_cases ha with rfl | rfl | rfl | rfl | rfl | rfl | rfl | rfl <;> rcases hb with rfl | rfl | rfl <;> rcases ho with rfl | rfl | rfl <;> decide +kernel
theorem hs_esF' {e : Nat → Int} (he : ∀ k, Ord (e k)) {o : Int} (ho : Ord o) : ∀ (l : List Nat) {a : Int}, pv a = true → (hs (l.foldl (fun a k => bor a (e k)) a) o = true ↔ hs a o = true ∨ ∃ k ∈ l, e k = o)
  | [], a, h => by simp
  | k :: l, a, h => by
    simp only [List.foldl_cons]
    rw [hs_esF' he ho l (bor_pv h (he k)), hs_bor h (he k) ho, Bool.or_eq_true, decide_eq_true_iff]
    simp [or_assoc]
theorem hs_zero {o : Int} (ho : Ord o) : hs 0 o = false := by rcases ho with rfl | rfl | rfl <;> decide +kernel
theorem hs_esF {e : Nat → Int} (he : ∀ k, Ord (e k)) {o : Int} (ho : Ord o) (l : List Nat) : hs (esF e l) o = true ↔ ∃ k ∈ l, e k = o := by
  unfold esF
  rw [hs_esF' he ho l rfl, hs_zero ho]
  simp
theorem e_ord0 (k : Nat) : Ord (e0 k) := ord_Ord _ _
theorem e_ord1 (k : Nat) : Ord (e1 k) := ord_Ord _ _
theorem e_ord2 (k : Nat) : Ord (e2 k) := ord_Ord _ _
theorem e_ord3 (k : Nat) : Ord (e3 k) := ord_Ord _ _
/-- some of n has this order at a place -/
def Has (e : Nat → Int) (n : Nat) (o : Int) : Prop := ∃ k, k < 13 ∧ n.testBit k = true ∧ e k = o
theorem hs_has {e : Nat → Int} (he : ∀ k, Ord (e k)) {o : Int} (ho : Ord o) (n : Nat) : hs (esF e (bl n.testBit 13)) o = true ↔ Has e n o := by
  rw [hs_esF he ho]
  constructor
  · rintro ⟨k, hk, h⟩; exact ⟨k, (bl_mem.1 hk).1, (bl_mem.1 hk).2, h⟩
  · rintro ⟨k, h1, h2, h⟩; exact ⟨k, bl_mem.2 ⟨h1, h2⟩, h⟩
theorem alw_iff {a b c d : Int} {j : Nat} : alw a b c d j = true ↔ hs a (e0 j) = true ∧ hs b (e1 j) = true ∧ hs c (e2 j) = true ∧ hs d (e3 j) = true := by simp [alw, and_assoc]
theorem pt_test {n j : Nat} (hj : j < 13) : (ptN n).testBit j = true ↔ Has e0 n (e0 j) ∧ Has e1 n (e1 j) ∧ Has e2 n (e2 j) ∧ Has e3 n (e3 j) := by
  rw [ptN, rooN, whN_test hj, alw_iff, es0, es1, es2, es3, hs_has e_ord0 (e_ord0 j), hs_has e_ord1 (e_ord1 j), hs_has e_ord2 (e_ord2 j), hs_has e_ord3 (e_ord3 j)]
theorem Has.mono {e : Nat → Int} {a b : Nat} {o : Int} (h : subN a b) : Has e a o → Has e b o := fun ⟨k, h1, h2, h3⟩ => ⟨k, h1, h k h1 h2, h3⟩
theorem pt_sup (n : Nat) : subN n (ptN n) := fun j hj h => (pt_test hj).2 ⟨⟨j, hj, h, rfl⟩, ⟨j, hj, h, rfl⟩, ⟨j, hj, h, rfl⟩, j, hj, h, rfl⟩
theorem pt_mono {a b : Nat} (h : subN a b) : subN (ptN a) (ptN b) := fun j hj hb => by
  obtain ⟨h0, h1, h2, h3⟩ := (pt_test hj).1 hb
  exact (pt_test hj).2 ⟨h0.mono h, h1.mono h, h2.mono h, h3.mono h⟩
theorem pt_or {n : Nat} (h : n < 8192) : ptN n ||| n = ptN n := (subN_or h (ptN_lt n)).1 (pt_sup n)
/-- what four sets of orders allow is told by orders -/
theorem pt_roo (a b c d : Int) : ptN (rooN a b c d) = rooN a b c d := by
  refine subN_anti (ptN_lt _) (rooN_lt _ _ _ _) (fun j hj hb => ?_) (pt_sup _)
  obtain ⟨⟨k0, l0, h0, g0⟩, ⟨k1, l1, h1, g1⟩, ⟨k2, l2, h2, g2⟩, k3, l3, h3, g3⟩ := (pt_test hj).1 hb
  rw [rooN, whN_test l0, alw_iff] at h0
  rw [rooN, whN_test l1, alw_iff] at h1
  rw [rooN, whN_test l2, alw_iff] at h2
  rw [rooN, whN_test l3, alw_iff] at h3
  rw [rooN, whN_test hj, alw_iff]
  exact ⟨by rw [← g0]; exact h0.1, by rw [← g1]; exact h1.2.1, by rw [← g2]; exact h2.2.2.1, by rw [← g3]; exact h3.2.2.2⟩
theorem pt_idem (n : Nat) : ptN (ptN n) = ptN n := pt_roo _ _ _ _
theorem pt_and {a b : Nat} (ha : a < 8192) (hb : b < 8192) (h : ptN a = a) (h' : ptN b = b) : ptN (a &&& b) = a &&& b := by
  have hl : a &&& b < 8192 := Nat.lt_of_le_of_lt Nat.and_le_left ha
  refine subN_anti (ptN_lt _) hl (fun j hj hx => ?_) (pt_sup _)
  have s1 : subN (a &&& b) a := fun i hi hb => by rw [Nat.testBit_and, Bool.and_eq_true] at hb; exact hb.1
  have s2 : subN (a &&& b) b := fun i hi hb => by rw [Nat.testBit_and, Bool.and_eq_true] at hb; exact hb.2
  have e1 := pt_mono s1 j hj hx
  have e2 := pt_mono s2 j hj hx
  rw [h] at e1
  rw [h'] at e2
  rw [Nat.testBit_and, e1, e2]; rfl
theorem ets {k : Nat} (hk : k < 13) : e0 (turF k) = tp (e0 k) ∧ e1 (turF k) = tp (e2 k) ∧ e2 (turF k) = tp (e1 k) ∧ e3 (turF k) = tp (e3 k) := by
  have H : all13 (fun k => decide (e0 (turF k) = tp (e0 k)) && decide (e1 (turF k) = tp (e2 k)) && decide (e2 (turF k) = tp (e1 k)) && decide (e3 (turF k) = tp (e3 k))) = true := by decide +kernel
  have := all13_of H hk
  simp only [Bool.and_eq_true, decide_eq_true_iff] at this
  exact ⟨this.1.1.1, this.1.1.2, this.1.2, this.2⟩
theorem tp_inj {a b : Int} (ha : Ord a) (hb : Ord b) : tp a = tp b ↔ a = b := by
  rcases ha with rfl | rfl | rfl <;> rcases hb with rfl | rfl | rfl <;> decide +kernel
theorem pt_tur' (n : Nat) : subN (ptN (turN n)) (turN (ptN n)) := fun j hj hb => by
  obtain ⟨⟨k0, l0, h0, g0⟩, ⟨k1, l1, h1, g1⟩, ⟨k2, l2, h2, g2⟩, k3, l3, h3, g3⟩ := (pt_test hj).1 hb
  rw [turN_test l0] at h0
  rw [turN_test l1] at h1
  rw [turN_test l2] at h2
  rw [turN_test l3] at h3
  rw [turN_test hj, pt_test (turF_lt hj)]
  refine ⟨⟨_, turF_lt l0, h0, ?_⟩, ⟨_, turF_lt l2, h2, ?_⟩, ⟨_, turF_lt l1, h1, ?_⟩, _, turF_lt l3, h3, ?_⟩
  · rw [(ets l0).1, (ets hj).1, g0]
  · rw [(ets l2).2.1, (ets hj).2.1, g2]
  · rw [(ets l1).2.2.1, (ets hj).2.2.1, g1]
  · rw [(ets l3).2.2.2, (ets hj).2.2.2, g3]
theorem pt_tur {n : Nat} (h : n < 8192) : ptN (turN n) = turN (ptN n) := by
  refine subN_anti (ptN_lt _) (turN_lt _) (pt_tur' n) ?_
  have := turN_sub (pt_tur' (turN n))
  rw [tt_n h, tt_n (ptN_lt _)] at this
  exact this
theorem msk_bit (n x j : Nat) : (if n &&& x != 0 then x else 0).testBit j = true ↔ x.testBit j = true ∧ n &&& x ≠ 0 := by
  by_cases h : n &&& x = 0
  · simp [h]
  · simp [h]
theorem and_some {n x : Nat} (hx : x < 8192) : n &&& x ≠ 0 ↔ ∃ k, k < 13 ∧ n.testBit k = true ∧ x.testBit k = true := by
  rw [Ne, and_zero]
  constructor
  · intro h
    obtain ⟨j, hj⟩ := Classical.not_forall.1 h
    have hj := Classical.not_not.1 hj
    exact ⟨j, bit_lt hx hj.2, hj⟩
  · rintro ⟨k, _, h⟩ H
    exact H k h
def mskOk (e : Nat → Int) (x y z : Nat) : Bool := decide (x < 8192 ∧ y < 8192 ∧ z < 8192) && all13 fun k => (x.testBit k == decide (e k = 1)) && (y.testBit k == decide (e k = 2)) && (z.testBit k == decide (e k = 4))
theorem msk_has {e : Nat → Int} (he : ∀ k, Ord (e k)) {x y z : Nat} (h : mskOk e x y z = true) {n j : Nat} (hj : j < 13) :
    ((if n &&& x != 0 then x else 0) ||| (if n &&& y != 0 then y else 0) ||| (if n &&& z != 0 then z else 0)).testBit j = true ↔ Has e n (e j) := by
  simp only [mskOk, Bool.and_eq_true, decide_eq_true_iff] at h
  obtain ⟨⟨x1, y1, z1⟩, h⟩ := h
  have bits : ∀ k, k < 13 → x.testBit k = decide (e k = 1) ∧ y.testBit k = decide (e k = 2) ∧ z.testBit k = decide (e k = 4) := fun k hk => by
    have := all13_of h hk
    simpa [and_assoc] using this
  rw [Nat.testBit_or, Nat.testBit_or, Bool.or_eq_true, Bool.or_eq_true, msk_bit, msk_bit, msk_bit, and_some x1, and_some y1, and_some z1]
  obtain ⟨b1, b2, b3⟩ := bits j hj
  constructor
  · rintro ((⟨p, k, hk, q, r⟩ | ⟨p, k, hk, q, r⟩) | ⟨p, k, hk, q, r⟩)
    · rw [b1, decide_eq_true_iff] at p
      rw [(bits k hk).1, decide_eq_true_iff] at r
      exact ⟨k, hk, q, by rw [p, r]⟩
    · rw [b2, decide_eq_true_iff] at p
      rw [(bits k hk).2.1, decide_eq_true_iff] at r
      exact ⟨k, hk, q, by rw [p, r]⟩
    · rw [b3, decide_eq_true_iff] at p
      rw [(bits k hk).2.2, decide_eq_true_iff] at r
      exact ⟨k, hk, q, by rw [p, r]⟩
  · rintro ⟨k, hk, q, r⟩
    obtain ⟨c1, c2, c3⟩ := bits k hk
    rcases he j with o | o | o
    · exact .inl (.inl ⟨by rw [b1, o]; rfl, k, hk, q, by rw [c1, r, o]; rfl⟩)
    · exact .inl (.inr ⟨by rw [b2, o]; rfl, k, hk, q, by rw [c2, r, o]; rfl⟩)
    · exact .inr ⟨by rw [b3, o]; rfl, k, hk, q, by rw [c3, r, o]; rfl⟩
theorem ptT_lt (n : Nat) : ptT n < 8192 := by
  unfold ptT
  refine Nat.lt_of_le_of_lt (Nat.le_trans Nat.and_le_left (Nat.le_trans Nat.and_le_left Nat.and_le_left)) (or_lt (or_lt ?_ ?_) ?_) <;> (split <;> decide)
theorem pt_t (n : Nat) : ptN n = ptT n := by
  refine set_ext (ptN_lt _) (ptT_lt _) fun j hj => ?_
  rw [Bool.eq_iff_iff, pt_test hj]
  unfold ptT
  rw [Nat.testBit_and, Nat.testBit_and, Nat.testBit_and, Bool.and_eq_true, Bool.and_eq_true, Bool.and_eq_true,
    msk_has (e := e0) e_ord0 (by decide +kernel) hj, msk_has (e := e1) e_ord1 (by decide +kernel) hj, msk_has (e := e2) e_ord2 (by decide +kernel) hj, msk_has (e := e3) e_ord3 (by decide +kernel) hj]
  simp [and_assoc]
theorem pt_pc {n : Nat} (h : n < 8192) (hp : ptN n = n) : PC n := pt_pc' h (by rw [← pt_t]; exact hp)
theorem pt_cv {x : Nat} (h : x ∈ cvL) : ptN x = x := by rw [pt_t]; exact pt_cv' x h
end Go.Proofs.YtmdgkhebefnfeaaDoor.C
