/- The relation of a text's letters: plain functions and facts. -/
import Derived.Test.YtnogdjmciekieaaDoorRelM
namespace Go.Proofs.YtnogdjmciekieaaDoor.C
open Go.RowKit
/-- all basic relations whose letters are in a list -/
def letS (l : List UInt8) : Nat := whN fun k => decide (ltb k ∈ l)
theorem letS_lt (l : List UInt8) : letS l < 8192 := whF_lt (Nat.le_refl _)
theorem letS_test {l : List UInt8} {j : Nat} (hj : j < 13) : (letS l).testBit j = decide (ltb j ∈ l) := whN_test hj
theorem letS_nil : letS [] = 0 := by decide +kernel
theorem ltb_inj {j k : Nat} (hj : j < 13) (hk : k < 13) (h : ltb j = ltb k) : j = k := by
  have := ltr_inj ⟨j, hj⟩ ⟨k, hk⟩ h
  simpa using this
theorem letS_snoc (l : List UInt8) {k : Nat} (hk : k < 13) : letS (l ++ [ltb k]) = letS l ||| 2 ^ k := by
  refine set_ext (letS_lt _) (or_lt (letS_lt _) (pow_lt hk)) fun j hj => ?_
  rw [letS_test hj, Nat.testBit_or, letS_test hj, Nat.testBit_two_pow, Bool.eq_iff_iff]
  simp only [List.mem_append, List.mem_singleton, decide_eq_true_eq, Bool.or_eq_true]
  constructor
  · rintro (h | h)
    · exact .inl h
    · exact .inr (ltb_inj hj hk h).symm
  · rintro (h | h)
    · exact .inl h
    · subst h; exact .inr rfl
theorem letS_other (l : List UInt8) {c : UInt8} (h : ∀ k, k < 13 → ltb k ≠ c) : letS (l ++ [c]) = letS l := by
  refine set_ext (letS_lt _) (letS_lt _) fun j hj => ?_
  rw [letS_test hj, letS_test hj, Bool.eq_iff_iff]
  simp only [List.mem_append, List.mem_singleton, decide_eq_true_eq]
  exact ⟨fun h' => h'.resolve_right (h j hj), .inl⟩
theorem mem_ltsF {n : Nat} {c : UInt8} : ∀ {k : Nat}, c ∈ ltsF n k ↔ ∃ j, j < k ∧ n.testBit j = true ∧ c = ltb j
  | 0 => by simp [ltsF]
  | k + 1 => by
    simp only [ltsF, List.mem_append, mem_ltsF (k := k)]
    constructor
    · rintro (⟨j, h1, h2, h3⟩ | h)
      · exact ⟨j, by omega, h2, h3⟩
      · split at h
        · rename_i ht
          exact ⟨k, by omega, ht, by simpa using h⟩
        · simp at h
    · rintro ⟨j, h1, h2, h3⟩
      by_cases e : j = k
      · subst e; exact .inr (by simp [h2, h3])
      · exact .inl ⟨j, by omega, h2, h3⟩
theorem letS_lts {n : Nat} (hn : n < 8192) : letS (ltsN n) = n := by
  refine set_ext (letS_lt _) hn fun j hj => ?_
  rw [letS_test hj, Bool.eq_iff_iff, decide_eq_true_eq]
  unfold ltsN
  split
  · rename_i h; subst h
    simp only [List.mem_singleton, Nat.zero_testBit]
    rcases nat13 hj with rfl | rfl | rfl | rfl | rfl | rfl | rfl | rfl | rfl | rfl | rfl | rfl | rfl <;> decide
  · rw [mem_ltsF]
    constructor
    · rintro ⟨i, h1, h2, h3⟩
      rw [ltb_inj hj h1 h3]; exact h2
    · intro h; exact ⟨j, hj, h, rfl⟩
/-- the text's relation, if it has one -/
def prs (s : ByteArray) : Int × Bool := if fmS (letS s.data.toList : Nat) = s then (((letS s.data.toList : Nat) : Int), true) else (0, false)
theorem prs_hit {s : ByteArray} (h : fmS (letS s.data.toList : Nat) = s) : prs s = (((letS s.data.toList : Nat) : Int), true) := by simp [prs, h]
theorem prs_miss {s : ByteArray} (h : ¬ fmS (letS s.data.toList : Nat) = s) : prs s = (0, false) := by simp [prs, h]
theorem letS_fm {n : Nat} (hn : n < 8192) : letS (fmS n).data.toList = n := by rw [fmS_on hn]; exact letS_lts hn
theorem prs_fm {n : Nat} (hn : n < 8192) : prs (fmS n) = ((n : Int), true) := by
  rw [prs_hit (by rw [letS_fm hn]), letS_fm hn]
/-- a relation's text has letters alone, if any -/
theorem fm_letters {n : Nat} (hn : n < 8192) {c : UInt8} (hc : c ∈ (fmS n).data.toList) : (∃ k, k < 13 ∧ ltb k = c) ∨ fmS n = ⟨#[45]⟩ := by
  rw [fmS_on hn] at hc ⊢
  unfold ltsN at hc ⊢
  split
  · exact .inr rfl
  · rename_i h
    simp only [h, if_false] at hc
    obtain ⟨j, h1, _, h3⟩ := mem_ltsF.1 hc
    exact .inl ⟨j, h1, h3.symm⟩
theorem ltb_ascii {k : Nat} (h : k < 13) : (ltb k).toNat < 128 := by
  rcases nat13 h with rfl | rfl | rfl | rfl | rfl | rfl | rfl | rfl | rfl | rfl | rfl | rfl | rfl <;> decide
theorem fm_ascii {n : Nat} (hn : n < 8192) {c : UInt8} (hc : c ∈ (fmS n).data.toList) : c.toNat < 128 := by
  rcases fm_letters hn hc with ⟨k, hk, rfl⟩ | h
  · exact ltb_ascii hk
  · rw [h] at hc
    simp at hc
    subst hc
    decide
/-- a letter that is none: the text is no relation's, unless it is the sign for none -/
theorem prs_bad {s : ByteArray} {c : UInt8} (hs : ¬ s = ⟨#[45]⟩) (hc : c ∈ s.data.toList) (h : ∀ k, k < 13 → ltb k ≠ c) : prs s = (0, false) := by
  refine prs_miss fun e => ?_
  rcases fm_letters (letS_lt s.data.toList) (by rw [e]; exact hc) with ⟨k, hk, h2⟩ | h2
  · exact h k hk h2
  · exact hs (e ▸ h2)
/-- what the program finds, by whatever set it reads off a text that is not ASCII alone -/
theorem prs_prog {s : ByteArray} {n : Nat} (hn : n < 8192) (h : (∀ c ∈ s.data.toList, c.toNat < 128) → n = letS s.data.toList) :
    (fmS n = s → prs s = ((n : Int), true)) ∧ (¬ fmS n = s → prs s = (0, false)) := by
  constructor
  · intro e
    rw [← e]
    exact prs_fm hn
  · intro e
    refine prs_miss fun e2 => ?_
    have := h fun c hc => fm_ascii (letS_lt s.data.toList) (by rw [e2]; exact hc)
    exact e (by rw [this]; exact e2)
end Go.Proofs.YtnogdjmciekieaaDoor.C
