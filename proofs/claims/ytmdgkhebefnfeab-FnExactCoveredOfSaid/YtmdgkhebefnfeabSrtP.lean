/- Numbers in order, each once: plain lists. No program is named here. -/
import Derived.Lib.SlicesCompact
import Derived.Test.YtmdgkhebefnfeabPure
namespace Go.Proofs.Ytmdgkhebefnfeab.C
open Go.RowKit
def Asc (l : List Int) : Prop := l.Pairwise (· < ·)
theorem asc_ext : ∀ {l m : List Int}, Asc l → Asc m → (∀ x, x ∈ l ↔ x ∈ m) → l = m
  | [], [], _, _, _ => rfl
  | [], b :: m, _, _, h => absurd ((h b).2 (by simp)) (by simp)
  | a :: l, [], _, _, h => absurd ((h a).1 (by simp)) (by simp)
  | a :: l, b :: m, hl, hm, h => by
    have hl' := List.pairwise_cons.1 hl
    have hm' := List.pairwise_cons.1 hm
    have e : a = b := by
      have h1 := (h a).1 (by simp)
      have h2 := (h b).2 (by simp)
      simp only [List.mem_cons] at h1 h2
      rcases h1 with h1 | h1
      · exact h1
      · rcases h2 with h2 | h2
        · exact h2.symm
        · have := hm'.1 a h1; have := hl'.1 b h2; omega
    subst e
    rw [asc_ext hl'.2 hm'.2 fun x => ?_]
    have := h x
    simp only [List.mem_cons] at this
    constructor
    · intro hx
      rcases this.1 (.inr hx) with rfl | h
      · have := hl'.1 x hx; omega
      · exact h
    · intro hx
      rcases this.2 (.inr hx) with rfl | h
      · have := hm'.1 x hx; omega
      · exact h
/-- how many are less -/
def lw (x : Int) (l : List Int) : Nat := (l.filter fun y => decide (y < x)).length
theorem lw_le (x : Int) (l : List Int) : lw x l ≤ l.length := List.length_filter_le _ _
theorem lw_cons (x a : Int) (l : List Int) : lw x (a :: l) = (if a < x then 1 else 0) + lw x l := by
  unfold lw
  rw [List.filter_cons]
  by_cases h : a < x
  · simp [h]; omega
  · simp [h]
theorem lw_zero {x : Int} {l : List Int} (h : ∀ y ∈ l, x ≤ y) : lw x l = 0 := by
  unfold lw
  rw [List.length_eq_zero_iff, List.filter_eq_nil_iff]
  intro y hy
  have := h y hy
  simp; omega
theorem lw_at : ∀ {l : List Int} {x : Int} {i : Nat}, Asc l → i < l.length → (i < lw x l ↔ l.getD i 0 < x)
  | [], _, _, _, h => by simp at h
  | a :: l, x, i, hl, hi => by
    have hl' := List.pairwise_cons.1 hl
    rw [lw_cons]
    by_cases ha : a < x
    · rw [if_pos ha]
      cases i with
      | zero => simp [ha]; omega
      | succ i =>
        have := lw_at (x := x) (i := i) hl'.2 (by simpa using hi)
        simp only [List.getD_cons_succ]
        rw [← this]; omega
    · rw [if_neg ha, lw_zero fun y hy => by have := hl'.1 y hy; omega]
      constructor
      · intro h; omega
      · intro h
        exfalso
        cases i with
        | zero => simp at h; omega
        | succ i =>
          have hi' : i < l.length := by simpa using hi
          have e : (a :: l).getD (i + 1) 0 = l[i] := by rw [List.getD_cons_succ, List.getD_eq_getElem?_getD, List.getElem?_eq_getElem hi']; rfl
          rw [e] at h
          have := hl'.1 _ (List.getElem_mem hi')
          omega
theorem lw_mem {l : List Int} {x : Int} (hl : Asc l) : x ∈ l ↔ lw x l < l.length ∧ l.getD (lw x l) 0 = x := by
  constructor
  · intro h
    obtain ⟨i, hi, e⟩ := List.getElem_of_mem h
    have e' : l.getD i 0 = x := by rw [List.getD_eq_getElem?_getD, List.getElem?_eq_getElem hi]; exact e
    have h1 := lw_at (x := x) hl hi
    have h2 : lw x l = i := by
      rcases Nat.lt_trichotomy (lw x l) i with h | h | h
      · exfalso
        have hlt := lw_at (x := x) hl (show lw x l < l.length by omega)
        have h3 := List.pairwise_iff_getElem.1 hl (lw x l) i (by omega) hi h
        have e2 : l.getD (lw x l) 0 = l[lw x l]'(by omega) := by rw [List.getD_eq_getElem?_getD, List.getElem?_eq_getElem (by omega)]; rfl
        rw [e2] at hlt
        omega
      · exact h
      · exfalso; omega
    rw [h2]; exact ⟨hi, e'⟩
  · rintro ⟨h1, h2⟩
    rw [← h2, List.getD_eq_getElem?_getD, List.getElem?_eq_getElem h1]
    exact List.getElem_mem h1
/-- one more -/
def insX (l : List Int) (x : Int) : List Int := if x ∈ l then l else l.take (lw x l) ++ x :: l.drop (lw x l)
theorem mem_insX {l : List Int} {x y : Int} : y ∈ insX l x ↔ y = x ∨ y ∈ l := by
  unfold insX
  split
  · rename_i h
    constructor
    · exact .inr
    · rintro (rfl | h')
      · exact h
      · exact h'
  · have : y ∈ l ↔ y ∈ l.take (lw x l) ∨ y ∈ l.drop (lw x l) := by rw [← List.mem_append, List.take_append_drop]
    rw [this, List.mem_append, List.mem_cons]
    constructor
    · rintro (h | h | h)
      · exact .inr (.inl h)
      · exact .inl h
      · exact .inr (.inr h)
    · rintro (h | h | h)
      · exact .inr (.inl h)
      · exact .inl h
      · exact .inr (.inr h)
theorem insX_asc {l : List Int} {x : Int} (hl : Asc l) : Asc (insX l x) := by
  unfold insX
  split
  · exact hl
  · rename_i hx
    have hlt : ∀ y ∈ l.take (lw x l), y < x := fun y hy => by
      obtain ⟨i, hi, rfl⟩ := List.getElem_of_mem hy
      have hi' : i < lw x l ∧ i < l.length := by rw [List.length_take] at hi; omega
      have := (lw_at (x := x) hl hi'.2).1 hi'.1
      rw [List.getElem_take]
      simpa [List.getD_eq_getElem?_getD, List.getElem?_eq_getElem hi'.2] using this
    have hgt : ∀ y ∈ l.drop (lw x l), x < y := fun y hy => by
      obtain ⟨i, hi, rfl⟩ := List.getElem_of_mem hy
      rw [List.length_drop] at hi
      have hi' : lw x l + i < l.length := by omega
      have h1 := mt (lw_at (x := x) hl hi').2 (by omega)
      rw [List.getElem_drop]
      have e : l.getD (lw x l + i) 0 = l[lw x l + i] := by rw [List.getD_eq_getElem?_getD, List.getElem?_eq_getElem hi']; rfl
      rw [e] at h1
      have hne : l[lw x l + i] ≠ x := fun h => hx (by rw [← h]; exact List.getElem_mem hi')
      omega
    refine List.pairwise_append.2 ⟨hl.sublist (List.take_sublist _ _), List.pairwise_cons.2 ⟨hgt, hl.sublist (List.drop_sublist _ _)⟩, fun a ha b hb => ?_⟩
    rcases List.mem_cons.1 hb with rfl | hb
    · exact hlt a ha
    · have := hlt a ha; have := hgt b hb; omega
def srt (zs : List Int) : List Int := zs.foldl insX []
theorem srt_snoc (zs : List Int) (x : Int) : srt (zs ++ [x]) = insX (srt zs) x := by simp [srt]
theorem srt_all : ∀ (m : Nat) (zs : List Int), zs.length = m → Asc (srt zs) ∧ (∀ x, x ∈ srt zs ↔ x ∈ zs) ∧ (srt zs).length ≤ m
  | 0, zs, h => by
    obtain rfl := List.eq_nil_of_length_eq_zero h
    exact ⟨List.Pairwise.nil, fun x => Iff.rfl, Nat.le_refl _⟩
  | m + 1, zs, h => by
    obtain ⟨zs, a, rfl⟩ : ∃ l' p, zs = l' ++ [p] := ⟨zs.dropLast, zs.getLast (by intro e; subst e; simp at h), (List.dropLast_concat_getLast _).symm⟩
    obtain ⟨h1, h2, h3⟩ := srt_all m zs (by simpa using h)
    rw [srt_snoc]
    refine ⟨insX_asc h1, fun x => ?_, ?_⟩
    · rw [mem_insX, h2, List.mem_append, List.mem_singleton]
      exact or_comm
    · unfold insX
      split
      · omega
      · rw [List.length_append, List.length_cons, List.length_take, List.length_drop]; omega
theorem srt_asc (zs : List Int) : Asc (srt zs) := (srt_all _ zs rfl).1
theorem srt_mem {zs : List Int} {x : Int} : x ∈ srt zs ↔ x ∈ zs := (srt_all _ zs rfl).2.1 x
theorem srt_len (zs : List Int) : (srt zs).length ≤ zs.length := (srt_all _ zs rfl).2.2
/-! What the library's sort and compact leave -/
theorem comp_mem (d : Array Int) {x : Int} : ∀ m, x ∈ Lib.compactUpTo d m ↔ ∃ j, j < m ∧ d[j]! = x
  | 0 => by simp [Lib.compactUpTo]
  | m + 1 => by
    rw [Lib.compactUpTo_succ, List.mem_append, comp_mem d m]
    constructor
    · rintro (⟨j, h1, h2⟩ | h)
      · exact ⟨j, by omega, h2⟩
      · split at h
        · exact ⟨m, by omega, (List.mem_singleton.1 h).symm⟩
        · simp at h
    · rintro ⟨j, h1, h2⟩
      by_cases e : j = m
      · subst e
        cases hk : Lib.keeps d j
        · left
          have hk' : ¬ (j = 0 ∨ d[j]! ≠ d[j - 1]!) := by simpa [Lib.keeps] using hk
          exact ⟨j - 1, by omega, by rw [← h2]; exact (Decidable.not_not.1 (fun h => hk' (.inr h))).symm⟩
        · right; simp [h2]
      · exact .inl ⟨j, by omega, h2⟩
theorem comp_asc (d : Array Int) (hs : ∀ i j, i < j → j < d.size → d[i]! ≤ d[j]!) : ∀ m, m ≤ d.size → Asc (Lib.compactUpTo d m)
  | 0, _ => by simp [Lib.compactUpTo, Asc]
  | m + 1, hm => by
    rw [Lib.compactUpTo_succ]
    have ih := comp_asc d hs m (by omega)
    cases hk : Lib.keeps d m
    · simpa using ih
    · simp only [if_true]
      refine List.pairwise_append.2 ⟨ih, by simp, fun a ha b hb => ?_⟩
      obtain rfl := List.mem_singleton.1 hb
      obtain ⟨j, hj, rfl⟩ := (comp_mem d m).1 ha
      have hk' : m = 0 ∨ d[m]! ≠ d[m - 1]! := by simpa [Lib.keeps] using hk
      have h1 := hs (m - 1) m (by omega) (by omega)
      have h2 : d[j]! ≤ d[m - 1]! := by
        by_cases e : j = m - 1
        · rw [e]; exact Int.le_refl _
        · exact hs j (m - 1) (by omega) (by omega)
      omega
theorem compact_srt (zs : List Int) : Lib.compact (zs.mergeSort fun x y => decide (x ≤ y)) = srt zs := by
  have hp := List.mergeSort_perm zs fun x y => decide (x ≤ y)
  have hs := List.pairwise_mergeSort (le := fun x y : Int => decide (x ≤ y)) (fun a b c h1 h2 => by simp at *; omega) (fun a b => by simp; omega) zs
  generalize (zs.mergeSort fun x y => decide (x ≤ y)) = ms at *
  refine asc_ext (comp_asc _ (fun i j hij hj => ?_) _ (by simp)) (srt_asc zs) fun x => ?_
  · have hj' : j < ms.length := by simpa using hj
    have := List.pairwise_iff_getElem.1 hs i j (by omega) hj' hij
    simpa [getElem!_pos, hj', show i < ms.length by omega] using this
  · rw [srt_mem, ← hp.mem_iff]
    show x ∈ Lib.compactUpTo ms.toArray ms.length ↔ _
    rw [comp_mem]
    constructor
    · rintro ⟨j, hj, rfl⟩
      simp [getElem!_pos, hj]
    · intro h
      obtain ⟨j, hj, e⟩ := List.getElem_of_mem h
      exact ⟨j, hj, by simp [getElem!_pos, hj, e]⟩
end Go.Proofs.Ytmdgkhebefnfeab.C
