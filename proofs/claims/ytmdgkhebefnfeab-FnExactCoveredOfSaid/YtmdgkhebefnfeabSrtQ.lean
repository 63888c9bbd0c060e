/- Sorting by swaps, and dropping what comes again: plain functions of an index. No program is named here. -/
import Derived.Test.YtmdgkhebefnfeabPure
namespace Go.Proofs.Ytmdgkhebefnfeab.C
set_option linter.unusedVariables false
set_option linter.unusedSimpArgs false
/-- a number is one of the first n -/
def In (f : Nat → Int) (n : Nat) (x : Int) : Prop := ∃ i, i < n ∧ f i = x
def SameIn (f g : Nat → Int) (n : Nat) : Prop := ∀ x, In f n x ↔ In g n x
def Up (f : Nat → Int) (m : Nat) : Prop := ∀ p q, p < q → q < m → f p ≤ f q
def UpS (f : Nat → Int) (m : Nat) : Prop := ∀ p q, p < q → q < m → f p < f q
/-- two neighbours change places -/
def swapF (f : Nat → Int) (j : Nat) : Nat → Int := fun i => if i = j then f (j - 1) else if i = j - 1 then f j else f i
theorem SameIn.refl (f : Nat → Int) (n : Nat) : SameIn f f n := fun _ => Iff.rfl
theorem SameIn.trans {f g h : Nat → Int} {n : Nat} (a : SameIn f g n) (b : SameIn g h n) : SameIn f h n := fun x => (a x).trans (b x)
theorem swap_in {f : Nat → Int} {n j : Nat} (h0 : 0 < j) (hj : j < n) : SameIn f (swapF f j) n := by
  intro x
  constructor
  · rintro ⟨i, hi, rfl⟩
    by_cases e : i = j
    · exact ⟨j - 1, by omega, by subst e; unfold swapF; rw [if_neg (by omega), if_pos rfl]⟩
    · by_cases e2 : i = j - 1
      · exact ⟨j, hj, by subst e2; unfold swapF; rw [if_pos rfl]⟩
      · exact ⟨i, hi, by unfold swapF; rw [if_neg e, if_neg e2]⟩
  · rintro ⟨i, hi, rfl⟩
    unfold swapF
    by_cases e : i = j
    · rw [if_pos e]; exact ⟨j - 1, by omega, rfl⟩
    · rw [if_neg e]
      by_cases e2 : i = j - 1
      · rw [if_pos e2]; exact ⟨j, hj, rfl⟩
      · rw [if_neg e2]; exact ⟨i, hi, rfl⟩
/-- the first i + 1 are in order, but for the one at j, which is no greater than those behind it -/
structure Ins (f : Nat → Int) (i j : Nat) : Prop where
  le : j ≤ i
  off : ∀ p q, p < q → q ≤ i → p ≠ j → q ≠ j → f p ≤ f q
  at' : ∀ q, j < q → q ≤ i → f j ≤ f q
theorem Ins.start {f : Nat → Int} {i : Nat} (h : Up f i) : Ins f i i := ⟨Nat.le_refl _, fun p q h1 h2 h3 h4 => h p q h1 (by omega), fun q h1 h2 => by omega⟩
theorem Ins.step {f : Nat → Int} {i j : Nat} (h : Ins f i j) (h0 : 0 < j) (hlt : f j < f (j - 1)) : Ins (swapF f j) i (j - 1) := by
  have hle := h.le
  refine ⟨by omega, fun p q h1 h2 h3 h4 => ?_, fun q h1 h2 => ?_⟩
  · unfold swapF
    by_cases ep : p = j
    · rw [if_pos ep, if_neg (by omega), if_neg h4]
      exact h.off (j - 1) q (by omega) h2 (by omega) (by omega)
    · rw [if_neg ep, if_neg h3]
      by_cases eq : q = j
      · rw [if_pos eq]
        exact h.off p (j - 1) (by omega) (by omega) ep (by omega)
      · rw [if_neg eq, if_neg h4]
        exact h.off p q h1 h2 ep eq
  · have hj1 : swapF f j (j - 1) = f j := by unfold swapF; rw [if_neg (by omega), if_pos rfl]
    rw [hj1]
    unfold swapF
    by_cases eq : q = j
    · rw [if_pos eq]; omega
    · rw [if_neg eq, if_neg (by omega)]
      exact h.at' q (by omega) h2
theorem Ins.done {f : Nat → Int} {i j : Nat} (h : Ins f i j) (hx : j = 0 ∨ f (j - 1) ≤ f j) : Up f (i + 1) := by
  have hle := h.le
  intro p q h1 h2
  by_cases ep : p = j
  · subst ep; exact h.at' q h1 (by omega)
  · by_cases eq : q = j
    · subst eq
      rcases hx with h0 | hx
      · omega
      · by_cases e : p = q - 1
        · rw [e]; exact hx
        · exact Int.le_trans (h.off p (q - 1) (by omega) (by omega) ep (by omega)) hx
    · exact h.off p q h1 (by omega) ep eq
/-! what stands once -/
/-- the first k of f that differ from the one before, and how many -/
def dedN (f : Nat → Int) : Nat → Nat
  | 0 => 0
  | 1 => 1
  | m + 2 => dedN f (m + 1) + (if f (m + 1) = f m then 0 else 1)
theorem dedN_le (f : Nat → Int) : ∀ m, dedN f m ≤ m
  | 0 => Nat.le_refl _
  | 1 => Nat.le_refl _
  | m + 2 => by have := dedN_le f (m + 1); simp only [dedN]; split <;> omega
/-- two rows that ascend and have the same numbers are the same -/
theorem up_min {f : Nat → Int} {m : Nat} (h : UpS f m) {i k : Nat} (hi : i < m) (hk : k < m) : f i < f k ↔ i < k := by
  constructor
  · intro hl
    rcases Nat.lt_trichotomy i k with e | e | e
    · exact e
    · subst e; omega
    · have := h k i e hi; omega
  · intro hl; exact h i k hl hk
theorem up_inj {f : Nat → Int} {m : Nat} (h : UpS f m) {i k : Nat} (hi : i < m) (hk : k < m) (e : f i = f k) : i = k := by
  rcases Nat.lt_trichotomy i k with l | l | l
  · have := h i k l hk; omega
  · exact l
  · have := h k i l hi; omega
theorem ups_same {f g : Nat → Int} {m n : Nat} (hf : UpS f m) (hg : UpS g n) (h : ∀ x, In f m x ↔ In g n x) : m = n ∧ ∀ i, i < m → f i = g i := by
  have key : ∀ (k : Nat) {f g : Nat → Int} {m n : Nat}, UpS f m → UpS g n → (∀ x, In f m x ↔ In g n x) → k < m → k < n ∧ f k = g k := by
    intro k
    induction k using Nat.strongRecOn with
    | _ k ih =>
      intro f g m n hf hg h hk
      obtain ⟨j, hj, ej⟩ := (h (f k)).1 ⟨k, hk, rfl⟩
      rcases Nat.lt_trichotomy j k with l | l | l
      · have := ih j l hf hg h (by omega)
        have e : f j = f k := by rw [this.2, ej]
        have := up_inj hf (by omega) hk e
        omega
      · subst l; exact ⟨hj, ej.symm⟩
      · have hkn : k < n := by omega
        obtain ⟨i, hi, ei⟩ := (h (g k)).2 ⟨k, hkn, rfl⟩
        have hlt : g k < f k := by rw [← ej]; exact hg k j l hj
        have hik : i < k := (up_min hf hi hk).1 (by omega)
        have := ih i hik hf hg h hi
        have e : g i = g k := by rw [← this.2, ei]
        have := up_inj hg (by omega) hkn e
        omega
  have h1 : m ≤ n := by
    rcases Nat.lt_or_ge n m with l | l
    · have := (key n hf hg h l).1; omega
    · exact l
  have h2 : n ≤ m := by
    rcases Nat.lt_or_ge m n with l | l
    · have := (key m hg hf (fun x => (h x).symm) l).1; omega
    · exact l
  exact ⟨by omega, fun i hi => (key i hf hg h hi).2⟩
end Go.Proofs.Ytmdgkhebefnfeab.C
