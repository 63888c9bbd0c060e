/- The edges of networks, and networks whose pairs are changed. No program is named here. -/
import Derived.Test.YtholffjadnaloaaDoorNetP
namespace Go.Proofs.YtholffjadnaloaaDoor.C
open Go.RowKit
set_option linter.unusedVariables false
set_option linter.unusedSimpArgs false
/-- edges from i to the m nodes behind it -/
def edI (i m : Nat) : List (Nat × Nat) := (List.range m).map fun j => (i, i + 1 + j)
/-- the edges whose lesser node is less than i -/
def edF (n : Nat) : Nat → List (Nat × Nat)
  | 0 => []
  | i + 1 => edF n i ++ edI i (n - 1 - i)
def edL (n : Nat) : List (Nat × Nat) := edF n n
theorem edI_len (i m : Nat) : (edI i m).length = m := by simp [edI]
theorem edI_succ (i m : Nat) : edI i (m + 1) = edI i m ++ [(i, i + 1 + m)] := by simp [edI, List.range_succ]
theorem edI_mem {i m : Nat} {p : Nat × Nat} : p ∈ edI i m ↔ p.1 = i ∧ i < p.2 ∧ p.2 < i + 1 + m := by
  simp only [edI, List.mem_map, List.mem_range]
  constructor
  · rintro ⟨j, h, rfl⟩
    exact ⟨rfl, by simp; omega, by simp; omega⟩
  · rintro ⟨rfl, h2, h3⟩
    refine ⟨p.2 - p.1 - 1, by omega, ?_⟩
    apply Prod.ext
    · rfl
    · simp; omega
theorem edF_mem {n : Nat} {p : Nat × Nat} : ∀ {i : Nat}, i ≤ n → (p ∈ edF n i ↔ p.1 < i ∧ p.1 < p.2 ∧ p.2 < n)
  | 0, _ => by simp [edF]
  | i + 1, h => by
    have ih := edF_mem (p := p) (i := i) (Nat.le_of_succ_le h)
    simp only [edF, List.mem_append, ih, edI_mem]
    omega
theorem edL_mem {n : Nat} {p : Nat × Nat} : p ∈ edL n ↔ p.1 < p.2 ∧ p.2 < n := by
  rw [edL, edF_mem (Nat.le_refl n)]; omega
theorem edF_len {n i : Nat} (hn : n ≤ 6) (hi : i ≤ n) : (edF n i).length ≤ 15 := by
  have h6 : n = 0 ∨ n = 1 ∨ n = 2 ∨ n = 3 ∨ n = 4 ∨ n = 5 ∨ n = 6 := by omega
  have hi6 : i = 0 ∨ i = 1 ∨ i = 2 ∨ i = 3 ∨ i = 4 ∨ i = 5 ∨ i = 6 := by omega
  rcases h6 with rfl | rfl | rfl | rfl | rfl | rfl | rfl <;> rcases hi6 with rfl | rfl | rfl | rfl | rfl | rfl | rfl <;> first | omega | decide +kernel
theorem edL_len {n : Nat} (hn : n ≤ 6) : (edL n).length ≤ 15 := edF_len hn (Nat.le_refl n)
theorem edF_one {n : Nat} : edF n (n - 1) = edL n ∨ n = 0 := by
  cases n with
  | zero => exact .inr rfl
  | succ n =>
    left
    show edF (n + 1) n = edF (n + 1) n ++ edI n (n + 1 - 1 - n)
    rw [show n + 1 - 1 - n = 0 by omega]; simp [edI]
theorem takeP (l : List (Nat × Nat)) (j : Nat) (h : j < l.length) : l.take (j + 1) = l.take j ++ [l.getD j (0, 0)] := by
  rw [List.take_succ_eq_append_getElem h]
  simp [List.getElem?_eq_getElem h]
theorem getP_mem {l : List (Nat × Nat)} {j : Nat} (h : j < l.length) : l.getD j (0, 0) ∈ l := by
  rw [List.getD_eq_getElem?_getD, List.getElem?_eq_getElem h]
  exact List.getElem_mem h
theorem edL_at {n j : Nat} (hj : j < (edL n).length) : ((edL n).getD j (0, 0)).1 < ((edL n).getD j (0, 0)).2 ∧ ((edL n).getD j (0, 0)).2 < n := edL_mem.1 (getP_mem hj)
/-! Networks whose pairs are changed, one by one -/
def chgR (R : Nat → Nat → Nat) (f : Nat → Nat → Nat) (l : List (Nat × Nat)) : Nat → Nat → Nat := l.foldl (fun M p => putR M p.1 p.2 (f p.1 p.2)) R
theorem chgR_snoc (R : Nat → Nat → Nat) (f : Nat → Nat → Nat) (l : List (Nat × Nat)) (p : Nat × Nat) : chgR R f (l ++ [p]) = putR (chgR R f l) p.1 p.2 (f p.1 p.2) := by simp [chgR]
def chR (n : Nat) (R : Nat → Nat → Nat) (f : Nat → Nat → Nat) : Nat → Nat → Nat := fun a b => if a < b ∧ b < n then f a b else if b < a ∧ a < n then turN (f b a) else R a b
theorem putR_at {R : Nat → Nat → Nat} {i k r a b : Nat} (h : i < k) : putR R i k r a b = if a = i ∧ b = k then r else if b = i ∧ a = k then turN r else R a b := by
  unfold putR upd
  by_cases e1 : a = k ∧ b = i
  · obtain ⟨rfl, rfl⟩ := e1
    rw [if_pos ⟨rfl, rfl⟩, if_neg (by omega), if_pos ⟨rfl, rfl⟩]
  · rw [if_neg e1]
    by_cases e2 : a = i ∧ b = k
    · rw [if_pos e2, if_pos e2]
    · rw [if_neg e2, if_neg e2, if_neg (by omega)]
theorem chgR_at {R : Nat → Nat → Nat} {f : Nat → Nat → Nat} {a b : Nat} : ∀ (m : Nat) {l : List (Nat × Nat)}, l.length = m → (∀ p ∈ l, p.1 < p.2) → chgR R f l a b = if (a, b) ∈ l then f a b else if (b, a) ∈ l then turN (f b a) else R a b
  | 0, l, h, _ => by
    obtain rfl := List.eq_nil_of_length_eq_zero h
    simp [chgR]
  | m + 1, l, h, H => by
    obtain ⟨l, p, rfl⟩ : ∃ l' p, l = l' ++ [p] := ⟨l.dropLast, l.getLast (by intro e; subst e; simp at h), (List.dropLast_concat_getLast _).symm⟩
    have hp := H p (by simp)
    rw [chgR_snoc, putR_at hp, chgR_at m (by simpa using h) fun q hq => H q (by simp [hq])]
    obtain ⟨i, k⟩ := p
    simp only at hp
    simp only [List.mem_append, List.mem_singleton, Prod.mk.injEq]
    by_cases e1 : a = i ∧ b = k
    · obtain ⟨rfl, rfl⟩ := e1
      simp
    · by_cases e2 : b = i ∧ a = k
      · obtain ⟨rfl, rfl⟩ := e2
        have hn : (a, b) ∉ l := fun hm => by have := H (a, b) (by simp [hm]); simp only at this; omega
        rw [if_neg e1, if_pos ⟨rfl, rfl⟩, if_neg (by simp only [not_or]; exact ⟨hn, e1⟩), if_pos (.inr ⟨rfl, rfl⟩)]
      · simp only [e1, e2, or_false, if_false]
theorem chgR_all {n : Nat} (R : Nat → Nat → Nat) (f : Nat → Nat → Nat) : chgR R f (edL n) = chR n R f := by
  funext a b
  rw [chgR_at _ rfl fun p hp => (edL_mem.1 hp).1]
  simp only [edL_mem]
  rfl
theorem chR_ok {n : Nat} {R : Nat → Nat → Nat} (h : OkR n R) {f : Nat → Nat → Nat} (hf : ∀ a b, a < b → b < n → f a b < 8192) : OkR n (chR n R f) := by
  refine ⟨h.pos, h.le, fun a b => ?_, fun a b hab => ?_, fun a ha => ?_, fun a b ha hb => ?_⟩
  · unfold chR; split
    · rename_i h1; exact hf a b h1.1 h1.2
    · split
      · exact turN_lt _
      · exact h.lt a b
  · unfold chR; rw [if_neg (by omega), if_neg (by omega)]; exact h.off a b hab
  · unfold chR; rw [if_neg (by omega), if_neg (by omega)]; exact h.one a ha
  · by_cases l : a < b
    · unfold chR; rw [if_neg (by omega), if_pos ⟨l, hb⟩, if_pos ⟨l, hb⟩]
    · by_cases l2 : b < a
      · unfold chR; rw [if_pos ⟨l2, ha⟩, if_neg (by omega), if_pos ⟨l2, ha⟩, tt_n (hf b a l2 ha)]
      · obtain rfl : a = b := by omega
        unfold chR; rw [if_neg (by omega), if_neg (by omega)]; exact h.tur a a ha ha
/-- two networks that agree on pairs agree -/
theorem okR_ext {n : Nat} {R S : Nat → Nat → Nat} (hR : OkR n R) (hS : OkR n S) (h : ∀ a b, a < b → b < n → R a b = S a b) : R = S := by
  funext a b
  by_cases hab : a < n ∧ b < n
  · by_cases l : a < b
    · exact h a b l hab.2
    · by_cases l2 : b < a
      · rw [hR.tur b a hab.2 hab.1, hS.tur b a hab.2 hab.1, h b a l2 hab.1]
      · obtain rfl : a = b := by omega
        rw [hR.one a hab.1, hS.one a hab.1]
  · rw [hR.off a b hab, hS.off a b hab]
theorem chR_pair {n : Nat} {R f : Nat → Nat → Nat} {a b : Nat} (h1 : a < b) (h2 : b < n) : chR n R f a b = f a b := if_pos ⟨h1, h2⟩
/-- all relations changed, in the square alone -/
def sqR (n : Nat) (f : Nat → Nat → Nat) : Nat → Nat → Nat := fun a b => if a < n ∧ b < n then f a b else 0
theorem sqR_on {n : Nat} {f : Nat → Nat → Nat} {a b : Nat} (h1 : a < n) (h2 : b < n) : sqR n f a b = f a b := if_pos ⟨h1, h2⟩
theorem sqR_off {n : Nat} {f : Nat → Nat → Nat} {a b : Nat} (h : ¬ (a < n ∧ b < n)) : sqR n f a b = 0 := if_neg h
theorem netB_congr {n m : Nat} {R S : Nat → Nat → Nat} (hm : m ≤ n * n) (h : ∀ a b, a < n → b < n → R a b = S a b) : netB n R m = netB n S m := by
  unfold netB
  congr 3
  unfold flt
  apply List.map_congr_left
  intro x hx
  have hx' : x < n * n := by have := List.mem_range.1 hx; omega
  have hn : 0 < n := Nat.pos_of_ne_zero (fun e => by subst e; simp at hx')
  exact h _ _ (Nat.div_lt_of_lt_mul hx') (Nat.mod_lt _ hn)
theorem netS_congr {n : Nat} {R S : Nat → Nat → Nat} (h : ∀ a b, a < n → b < n → R a b = S a b) : netS n R = netS n S := netB_congr (Nat.le_refl _) h
theorem netS_sq {n : Nat} (f : Nat → Nat → Nat) : netS n (sqR n f) = netS n f := netS_congr fun a b ha hb => sqR_on ha hb
/-! What is changed in this way -/
theorem and_lt {a b : Nat} (h : a < 8192) : a &&& b < 8192 := Nat.lt_of_le_of_lt Nat.and_le_left h
theorem tur_and {a b : Nat} (ha : a < 8192) (hb : b < 8192) : turN (a &&& b) = turN a &&& turN b :=
  set_ext (turN_lt _) (and_lt (turN_lt _)) fun j hj => by rw [turN_test hj, Nat.testBit_and, Nat.testBit_and, turN_test hj, turN_test hj]
theorem tur_pow {k : Nat} (h : k < 13) : turN (2 ^ k) = 2 ^ (12 - k) := by
  rcases nat13 h with rfl | rfl | rfl | rfl | rfl | rfl | rfl | rfl | rfl | rfl | rfl | rfl | rfl <;> decide +kernel
theorem mir64 : mirN 64 = 64 := by decide +kernel
theorem tur_all : turN 8191 = 8191 := by decide +kernel
def meetR (R S : Nat → Nat → Nat) : Nat → Nat → Nat := fun a b => R a b &&& S a b
theorem meetR_ok {n : Nat} {R S : Nat → Nat → Nat} (hR : OkR n R) (hS : OkR n S) : OkR n (meetR R S) := by
  refine ⟨hR.pos, hR.le, fun a b => and_lt (hR.lt a b), fun a b h => ?_, fun a ha => ?_, fun a b ha hb => ?_⟩
  · unfold meetR; rw [hR.off a b h]; simp
  · unfold meetR; rw [hR.one a ha, hS.one a ha]; rfl
  · unfold meetR; rw [hR.tur a b ha hb, hS.tur a b ha hb, tur_and (hR.lt a b) (hS.lt a b)]
def mirR (R : Nat → Nat → Nat) : Nat → Nat → Nat := fun a b => mirN (R a b)
theorem mir0 : mirN 0 = 0 := by decide +kernel
theorem mirR_ok {n : Nat} {R : Nat → Nat → Nat} (hR : OkR n R) : OkR n (mirR R) := by
  refine ⟨hR.pos, hR.le, fun a b => mirN_lt _, fun a b h => ?_, fun a ha => ?_, fun a b ha hb => ?_⟩
  · unfold mirR; rw [hR.off a b h, mir0]
  · unfold mirR; rw [hR.one a ha, mir64]
  · unfold mirR; rw [hR.tur a b ha hb]; exact (tm_n _).symm
def parR (m : Nat) (g : Nat → Nat) (R : Nat → Nat → Nat) : Nat → Nat → Nat := sqR m fun a b => R (g a) (g b)
theorem parR_ok {n m : Nat} {R : Nat → Nat → Nat} (hR : OkR n R) (h1 : 1 ≤ m) (h6 : m ≤ 6) {g : Nat → Nat} (hg : ∀ i, i < m → g i < n) : OkR m (parR m g R) := by
  refine ⟨h1, h6, fun a b => ?_, fun a b h => sqR_off h, fun a ha => ?_, fun a b ha hb => ?_⟩
  · unfold parR sqR; split
    · exact hR.lt _ _
    · omega
  · unfold parR; rw [sqR_on ha ha]; exact hR.one _ (hg a ha)
  · unfold parR; rw [sqR_on hb ha, sqR_on ha hb]; exact hR.tur _ _ (hg a ha) (hg b hb)
/-- the network of basic relations -/
def basR (n : Nat) (f : Nat → Nat → Nat) : Nat → Nat → Nat := sqR n fun a b => 2 ^ f a b
theorem basR_ok {n : Nat} (h1 : 1 ≤ n) (h6 : n ≤ 6) {f : Nat → Nat → Nat} (hf : ∀ a b, a < n → b < n → f a b < 13) (hs : ∀ a, a < n → f a a = 6) (ht : ∀ a b, a < n → b < n → f b a = 12 - f a b) : OkR n (basR n f) := by
  refine ⟨h1, h6, fun a b => ?_, fun a b h => sqR_off h, fun a ha => ?_, fun a b ha hb => ?_⟩
  · unfold basR sqR; split
    · rename_i h; exact pow_lt (hf a b h.1 h.2)
    · omega
  · unfold basR; rw [sqR_on ha ha, hs a ha]
  · unfold basR; rw [sqR_on hb ha, sqR_on ha hb, ht a b ha hb, tur_pow (hf a b ha hb)]
/-- the numbers of choices, multiplied -/
def prdL (R : Nat → Nat → Nat) (l : List (Nat × Nat)) : Nat := l.foldl (fun x p => x * onesN 13 (R p.1 p.2)) 1
theorem prdL_snoc (R : Nat → Nat → Nat) (l : List (Nat × Nat)) (p : Nat × Nat) : prdL R (l ++ [p]) = prdL R l * onesN 13 (R p.1 p.2) := by simp [prdL]
theorem prdL_le {R : Nat → Nat → Nat} (hR : ∀ a b, R a b < 8192) : ∀ (m : Nat) {l : List (Nat × Nat)}, l.length = m → prdL R l ≤ 13 ^ m
  | 0, l, h => by
    obtain rfl := List.eq_nil_of_length_eq_zero h
    simp [prdL]
  | m + 1, l, h => by
    obtain ⟨l, p, rfl⟩ : ∃ l' p, l = l' ++ [p] := ⟨l.dropLast, l.getLast (by intro e; subst e; simp at h), (List.dropLast_concat_getLast _).symm⟩
    rw [prdL_snoc, Nat.pow_succ]
    exact Nat.mul_le_mul (prdL_le hR m (by simpa using h)) (ones_le (hR _ _))
theorem prdL_lt {R : Nat → Nat → Nat} (hR : ∀ a b, R a b < 8192) {l : List (Nat × Nat)} (h : l.length ≤ 15) : prdL R l ≤ 51185893014090757 := by
  have h1 := prdL_le hR _ (rfl : l.length = l.length)
  have h2 : 13 ^ l.length ≤ 13 ^ 15 := Nat.pow_le_pow_right (by omega) h
  have h3 : (13 : Nat) ^ 15 = 51185893014090757 := by decide +kernel
  omega
/-- a network lies within another one -/
def witB (R S : Nat → Nat → Nat) (l : List (Nat × Nat)) : Bool := l.all fun p => decide (R p.1 p.2 &&& S p.1 p.2 = R p.1 p.2)
theorem wit_meet {n : Nat} {R S : Nat → Nat → Nat} (hR : OkR n R) (hS : OkR n S) : witB R S (edL n) = true ↔ meetR R S = R := by
  constructor
  · intro h
    refine okR_ext (meetR_ok hR hS) hR fun a b ha hb => ?_
    have := List.all_eq_true.1 h (a, b) (edL_mem.2 ⟨ha, hb⟩)
    exact of_decide_eq_true this
  · intro h
    refine List.all_eq_true.2 fun p _ => ?_
    have := congrFun (congrFun h p.1) p.2
    simpa [meetR] using this
end Go.Proofs.YtholffjadnaloaaDoor.C
