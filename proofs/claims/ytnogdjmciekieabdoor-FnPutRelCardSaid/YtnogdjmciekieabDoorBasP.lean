/- What the basic relation of two valid intervals tells: facts of numbers, for the plain laws of chapters 2 to 5. -/
import Derived.Test.YtnogdjmciekieabDoorCmpM
import Derived.Test.YtnogdjmciekieabDoorLatM
namespace Go.Proofs.YtnogdjmciekieabDoor.C
open Go.RowKit
set_option linter.unusedVariables false
set_option linter.unusedSimpArgs false
theorem bat_mk {k : Nat} (h : k < 13) : batI (zf k) (zt k) = k := by
  rcases nat13 h with rfl | rfl | rfl | rfl | rfl | rfl | rfl | rfl | rfl | rfl | rfl | rfl | rfl <;> decide +kernel
theorem zn_is {x f t : Int} {z : Int} (hz : (x < f ∧ z = 0) ∨ (x = f ∧ z = 1) ∨ (f < x ∧ x < t ∧ z = 2) ∨ (f < x ∧ x = t ∧ z = 3) ∨ (f < x ∧ t < x ∧ z = 4)) : zn x f t = z := by
  rcases zn_cases x f t with h | h | h | h | h <;> rcases hz with h' | h' | h' | h' | h' <;> omega
/-- where four ends lie, by the basic relation -/
def Lie (a b c d : Int) (k : Nat) : Prop :=
  (ord a c = e0 k ∧ ord a d = e1 k ∧ ord b c = e2 k ∧ ord b d = e3 k) ∧ zn a c d = zf k ∧ zn b c d = zt k
theorem lie_cases {a b c d : Int} (h1 : a < b) (h2 : c < d) {k : Nat} (hk : k < 13) (hf : zf k = zn a c d) (ht : zt k = zn b c d) : Lie a b c d k := by
  refine ⟨?_, hf.symm, ht.symm⟩
  have ha := zn_cases a c d
  have hb := zn_cases b c d
  rw [← hf] at ha
  rw [← ht] at hb
  rcases nat13 hk with rfl | rfl | rfl | rfl | rfl | rfl | rfl | rfl | rfl | rfl | rfl | rfl | rfl <;> simp only [zf, zt] at ha hb <;>
    refine ⟨?_, ?_, ?_, ?_⟩ <;> simp only [e0, e1, e2, e3, zf, zt] <;> unfold ord <;> (repeat' split) <;> first | rfl | omega
theorem lie_of {a b c d : Int} (h1 : iv a b = true) (h2 : iv c d = true) : ∃ k, k < 13 ∧ batI (zn a c d) (zn b c d) = (k : Nat) ∧ Lie a b c d k := by
  obtain ⟨k, hk, hf, ht, hr⟩ := zn_bat h1 h2
  rw [iv_iff] at h1 h2
  exact ⟨k, hk, batI_hit hr, lie_cases h1.2.1 h2.2.1 hk hf ht⟩
theorem e_inj : ∀ {j k : Nat}, j < 13 → k < 13 → e0 j = e0 k → e1 j = e1 k → e2 j = e2 k → e3 j = e3 k → j = k := by
  have H : all13 (fun j => all13 fun k => (!(decide (e0 j = e0 k) && decide (e1 j = e1 k) && decide (e2 j = e2 k) && decide (e3 j = e3 k))) || decide (j = k)) = true := by decide +kernel
  intro j k hj hk h0 h1 h2 h3
  have := all13_of (all13_of H hj) hk
  simpa [h0, h1, h2, h3] using this
/-- the relation, from the orders of the ends -/
theorem bat_lie {a b c d : Int} (h1 : iv a b = true) (h2 : iv c d = true) {k : Nat} (hk : k < 13) (g0 : ord a c = e0 k) (g1 : ord a d = e1 k) (g2 : ord b c = e2 k) (g3 : ord b d = e3 k) : batI (zn a c d) (zn b c d) = (k : Nat) := by
  obtain ⟨j, hj, hr, ⟨⟨f0, f1, f2, f3⟩, _⟩⟩ := lie_of h1 h2
  rw [hr, e_inj hj hk (f0.symm.trans g0) (f1.symm.trans g1) (f2.symm.trans g2) (f3.symm.trans g3)]
theorem e_turn {k : Nat} (hk : k < 13) : e0 (12 - k) = tp (e0 k) ∧ e1 (12 - k) = tp (e2 k) ∧ e2 (12 - k) = tp (e1 k) ∧ e3 (12 - k) = tp (e3 k) := by
  rcases nat13 hk with rfl | rfl | rfl | rfl | rfl | rfl | rfl | rfl | rfl | rfl | rfl | rfl | rfl <;> decide +kernel
theorem e_mirror {k : Nat} (hk : k < 13) : e0 (miN k) = tp (e3 k) ∧ e1 (miN k) = tp (e2 k) ∧ e2 (miN k) = tp (e1 k) ∧ e3 (miN k) = tp (e0 k) := by
  rcases nat13 hk with rfl | rfl | rfl | rfl | rfl | rfl | rfl | rfl | rfl | rfl | rfl | rfl | rfl <;> decide +kernel
theorem ord_neg (x y : Int) : ord (-x) (-y) = tp (ord x y) := by
  rw [← ord_turn]; unfold ord; (repeat' split) <;> first | rfl | omega
theorem iv_neg {a b : Int} (h : iv a b = true) : iv (-b) (-a) = true := by rw [iv_iff] at h ⊢; omega
/-- all that a basic relation tells of the other ways round -/
theorem bat_turn {a b c d : Int} (h1 : iv a b = true) (h2 : iv c d = true) {k : Nat} (hk : k < 13) (h : Lie a b c d k) : batI (zn c a b) (zn d a b) = ((12 - k : Nat) : Int) := by
  obtain ⟨⟨f0, f1, f2, f3⟩, _⟩ := h
  obtain ⟨t0, t1, t2, t3⟩ := e_turn hk
  exact bat_lie h2 h1 (by omega) (by rw [ord_turn, f0, t0]) (by rw [ord_turn, f2, t1]) (by rw [ord_turn, f1, t2]) (by rw [ord_turn, f3, t3])
theorem bat_mirror {a b c d : Int} (h1 : iv a b = true) (h2 : iv c d = true) {k : Nat} (hk : k < 13) (h : Lie a b c d k) : batI (zn (-b) (-d) (-c)) (zn (-a) (-d) (-c)) = ((miN k : Nat) : Int) := by
  obtain ⟨⟨f0, f1, f2, f3⟩, _⟩ := h
  obtain ⟨t0, t1, t2, t3⟩ := e_mirror hk
  exact bat_lie (iv_neg h1) (iv_neg h2) (miN_lt hk) (by rw [ord_neg, f3, t0]) (by rw [ord_neg, f2, t1]) (by rw [ord_neg, f1, t2]) (by rw [ord_neg, f0, t3])
theorem bat_self {a b : Int} (h1 : iv a b = true) : batI (zn a a b) (zn b a b) = ((6 : Nat) : Int) := by
  have h := h1
  rw [iv_iff] at h
  exact bat_lie h1 h1 (by omega) (ord_eq rfl) (ord_lt (by omega)) (ord_gt (by omega)) (ord_eq rfl)
theorem ord_inj {x y : Int} : ord x y = 2 ↔ x = y := by
  constructor
  · intro h; rcases Int.lt_trichotomy x y with l | l | l
    · rw [ord_lt l] at h; omega
    · exact l
    · rw [ord_gt l] at h; omega
  · exact ord_eq
theorem bat_six {a b c d : Int} (h1 : iv a b = true) (h2 : iv c d = true) {k : Nat} (hk : k < 13) (h : Lie a b c d k) : k = 6 ↔ a = c ∧ b = d := by
  constructor
  · rintro rfl
    obtain ⟨⟨f0, _, _, f3⟩, _⟩ := h
    exact ⟨ord_inj.1 f0, ord_inj.1 f3⟩
  · rintro ⟨rfl, rfl⟩
    obtain ⟨⟨f0, f1, f2, f3⟩, _⟩ := h
    have h := h1
    rw [iv_iff] at h
    rw [ord_eq rfl] at f0 f3
    rw [ord_lt (by omega)] at f1
    rw [ord_gt (by omega)] at f2
    exact e_inj hk (by omega) (f0.symm.trans rfl) (f1.symm.trans rfl) (f2.symm.trans rfl) (f3.symm.trans rfl)
theorem lie_inside {a b c d : Int} {k : Nat} (hk : k < 13) (h : Lie a b c d k) (h2 : zf k = 2) : c < a ∧ a < d := by
  obtain ⟨_, hz, _⟩ := h
  rw [h2] at hz
  rcases zn_cases a c d with h | h | h | h | h <;> omega
/-! What two intervals have in common -/
theorem lie_nums {a b c d : Int} (h1 : a < b) (h2 : c < d) {k : Nat} (hk : k < 13) (h : Lie a b c d k) :
    (max a c < min b d ↔ ¬ (k = 0 ∨ k = 1 ∨ k = 11 ∨ k = 12)) ∧ ((k = 3 ∨ k = 4 ∨ k = 5 ∨ k = 6) ↔ (c ≤ a ∧ b ≤ d)) ∧ (k = 0 ↔ b < c) ∧ (k = 12 ↔ d < a) ∧ (k = 1 ↔ b = c) ∧ (k = 11 ↔ a = d) := by
  obtain ⟨_, hf, ht⟩ := h
  have ha := zn_cases a c d
  have hb := zn_cases b c d
  rw [hf] at ha
  rw [ht] at hb
  rcases nat13 hk with rfl | rfl | rfl | rfl | rfl | rfl | rfl | rfl | rfl | rfl | rfl | rfl | rfl <;> simp only [zf, zt] at ha hb <;> omega
/-! Composition -/
theorem hs_band {x y o : Int} (hx : pv x = true) (hy : pv y = true) (ho : Ord o) : hs (band x y) o = (hs x o && hs y o) := by
  rcases pv_cases hx with rfl | rfl | rfl | rfl | rfl | rfl | rfl | rfl <;> rcases pv_cases hy with rfl | rfl | rfl | rfl | rfl | rfl | rfl | rfl <;> rcases ho with rfl | rfl | rfl <;> decide +kernel
theorem pv_oth {o p : Int} (ho : Ord o) (hp : Ord p) : pv (othen o p) = true := by
  rcases ho with rfl | rfl | rfl <;> rcases hp with rfl | rfl | rfl <;> decide +kernel
theorem hs_oth (x y z : Int) : hs (othen (ord x y) (ord y z)) (ord x z) = true := by
  rcases Int.lt_trichotomy x y with l | l | l <;> rcases Int.lt_trichotomy y z with m | m | m
  · rw [ord_lt l, ord_lt m, ord_lt (by omega)]; decide +kernel
  · rw [ord_lt l, ord_eq m, ord_lt (by omega)]; decide +kernel
  · rw [ord_lt l, ord_gt m]; rcases ord_cases x z with h | h | h <;> rw [h] <;> decide +kernel
  · rw [ord_eq l, ord_lt m, ord_lt (by omega)]; decide +kernel
  · rw [ord_eq l, ord_eq m, ord_eq (by omega)]; decide +kernel
  · rw [ord_eq l, ord_gt m, ord_gt (by omega)]; decide +kernel
  · rw [ord_gt l, ord_lt m]; rcases ord_cases x z with h | h | h <;> rw [h] <;> decide +kernel
  · rw [ord_gt l, ord_eq m, ord_gt (by omega)]; decide +kernel
  · rw [ord_gt l, ord_gt m, ord_gt (by omega)]; decide +kernel
/-- what three intervals have, a third one allows -/
theorem cm_three {a b c d f g : Int} {i k m : Nat} (hi : i < 13) (hk : k < 13) (hm : m < 13) (h1 : Lie a b c d i) (h2 : Lie c d f g k) (h3 : Lie a b f g m) : (cmT i k).testBit m = true := by
  obtain ⟨⟨f0, f1, f2, f3⟩, _⟩ := h1
  obtain ⟨⟨g0, g1, g2, g3⟩, _⟩ := h2
  obtain ⟨⟨q0, q1, q2, q3⟩, _⟩ := h3
  have o : ∀ x y, Ord (ord x y) := ord_Ord
  rw [← cm_then hi hk, whN_test hm]
  simp only [alw, t0, t1, t2, t3, ← f0, ← f1, ← f2, ← f3, ← g0, ← g1, ← g2, ← g3, ← q0, ← q1, ← q2, ← q3]
  simp only [hs_band (pv_oth (o _ _) (o _ _)) (pv_oth (o _ _) (o _ _)) (o _ _), hs_oth, Bool.and_self]
theorem cm_sides {i k t : Nat} (hi : i < 13) (hk : k < 13) (ht : t < 13) : (cmT i k).testBit t = (cmT t (12 - k)).testBit i ∧ (cmT i k).testBit t = (cmT (12 - i) t).testBit k := by
  have H : all13 (fun i => all13 fun k => all13 fun t => decide ((cmT i k).testBit t = (cmT t (12 - k)).testBit i) && decide ((cmT i k).testBit t = (cmT (12 - i) t).testBit k)) = true := by decide +kernel
  have := all13_of (all13_of (all13_of H hi) hk) ht
  simpa using this
theorem cm_facts {i k : Nat} (hi : i < 13) (hk : k < 13) : turN (cmT i k) = cmT (12 - k) (12 - i) ∧ mirN (cmT i k) = cmT (miN i) (miN k) ∧ cmT i 6 = 2 ^ i ∧ 0 < onesN 13 (cmT i k) := by
  have H : all13 (fun i => all13 fun k => decide (turN (cmT i k) = cmT (12 - k) (12 - i)) && decide (mirN (cmT i k) = cmT (miN i) (miN k)) && decide (cmT i 6 = 2 ^ i) && decide (0 < onesN 13 (cmT i k))) = true := by decide +kernel
  have := all13_of (all13_of H hi) hk
  simpa [and_assoc] using this
/-! An end that moves by one -/
theorem next_moved {a b c d : Int} {k m : Nat} (hk : k < 13) (hm : m < 13) (h1 : Lie a b c d k) (h2 : Lie (a + 1) b c d m) (hab : a + 1 < b) (hcd : c + 2 ≤ d) : m = k ∨ nextB k m = true := by
  obtain ⟨_, f1, f2⟩ := h1
  obtain ⟨_, g1, g2⟩ := h2
  have hz : zt k = zt m := f2.symm.trans g2
  have ha := zn_cases a c d
  have hb := zn_cases (a + 1) c d
  rw [f1] at ha
  rw [g1] at hb
  have hd : zf m = zf k ∨ zf k = zf m - 1 := by omega
  rcases hd with e | e
  · left
    have b1 := bat_mk hk
    have b2 := bat_mk hm
    rw [← e, hz, b2] at b1
    omega
  · right
    simp [nextB, besZ, hz, e]
end Go.Proofs.YtnogdjmciekieabDoor.C
