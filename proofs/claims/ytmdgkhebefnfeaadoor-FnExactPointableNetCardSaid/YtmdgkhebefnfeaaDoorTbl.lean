/- The model's table of composition as it is built, over the intervals of few points: plain functions and facts. The model's table of composition: its walk. -/
import Derived.Test.YtmdgkhebefnfeaaDoorCmpM
import Derived.Test.YtmdgkhebefnfeaaDoorBasic
import Derived.Test.YtmdgkhebefnfeaaDoorRelU
import Derived.Deep.RegionHeld3
import Derived.Deep.AppendLies
import Derived.OwnWalk
import Derived.Deep.DeepCutAuto
import Derived.Laws.AppendOwn
namespace Go.Proofs.YtmdgkhebefnfeaaDoor.C
section
open Go.RowKit
set_option linter.unusedVariables false
set_option linter.unusedSimpArgs false
def fewI (f k : Nat) : List (Nat × Nat) := (List.range k).map fun j => (f, f + 1 + j)
def fewF : Nat → List (Nat × Nat)
  | 0 => []
  | f + 1 => fewF f ++ fewI f (13 - f)
/-- all intervals of few points -/
def few : List (Nat × Nat) := fewF 14
theorem few_len : few.length = 91 := by decide +kernel
theorem few_ok : ∀ p ∈ few, p.1 < p.2 ∧ p.2 ≤ 13 := by decide +kernel
theorem fewI_succ (f k : Nat) : fewI f (k + 1) = fewI f k ++ [(f, f + 1 + k)] := by simp [fewI, List.range_succ]
theorem fewF_len : ∀ f, f ≤ 14 → (fewF f).length ≤ 91 := by decide +kernel
theorem fewI_len (f k : Nat) : (fewI f k).length = k := by simp [fewI]
/-- the basic relation of two of them -/
def relN (a b : Nat × Nat) : Nat := (batI (zn a.1 b.1 b.2) (zn a.2 b.1 b.2)).toNat
theorem rel_of {a b : Nat × Nat} (ha : a.1 < a.2 ∧ a.2 ≤ 13) (hb : b.1 < b.2 ∧ b.2 ≤ 13) : batI (zn a.1 b.1 b.2) (zn a.2 b.1 b.2) = (relN a b : Int) ∧ relN a b < 13 := by
  have h1 : iv (a.1 : Int) (a.2 : Int) = true := by rw [iv_iff]; omega
  have h2 : iv (b.1 : Int) (b.2 : Int) = true := by rw [iv_iff]; omega
  obtain ⟨k, hk, _, _, hr⟩ := zn_bat h1 h2
  have := batI_hit hr
  unfold relN
  rw [this]
  exact ⟨by simp, by simpa using hk⟩
def mid : Nat × Nat := (4, 9)
def tabI (a : Nat × Nat) (S : Nat) (l : List (Nat × Nat)) : Nat := l.foldl (fun S p => S ||| 2 ^ (13 * (13 * relN a mid + relN mid p) + relN a p)) S
def tabO (S : Nat) (l : List (Nat × Nat)) : Nat := l.foldl (fun S a => tabI a S few) S
/-- the table's number x: thirteen bits of one great number -/
def cellS (S x : Nat) : Nat := S / 2 ^ (13 * x) % 2 ^ 13
theorem cellS_lt (S x : Nat) : cellS S x < 8192 := Nat.mod_lt _ (by decide)
theorem cellS_test (S x j : Nat) : (cellS S x).testBit j = (decide (j < 13) && S.testBit (13 * x + j)) := by
  rw [cellS, Nat.testBit_mod_two_pow, ← Nat.shiftRight_eq_div_pow, Nat.testBit_shiftRight]
theorem cellS_hit (S x r : Nat) (hr : r < 13) : cellS (S ||| 2 ^ (13 * x + r)) x = cellS S x ||| 2 ^ r := by
  refine Nat.eq_of_testBit_eq fun j => ?_
  rw [Nat.testBit_or, cellS_test, cellS_test, Nat.testBit_or, Nat.testBit_two_pow, Nat.testBit_two_pow]
  by_cases h : j < 13
  · by_cases e : r = j
    · subst e; simp [h]
    · simp [h, e]
  · have : ¬ r = j := by omega
    simp [h, this]
theorem cellS_miss (S x y r : Nat) (hr : r < 13) (h : x ≠ y) : cellS (S ||| 2 ^ (13 * y + r)) x = cellS S x := by
  refine Nat.eq_of_testBit_eq fun j => ?_
  rw [cellS_test, cellS_test, Nat.testBit_or, Nat.testBit_two_pow]
  by_cases hj : j < 13
  · have : ¬ 13 * y + r = 13 * x + j := by omega
    simp [hj, this]
  · simp [hj]
theorem cellS_zero (x : Nat) : cellS 0 x = 0 := by simp [cellS]
def tabL : Nat := 11532500863595108661388537645610545565999198224314442701894555880523860162744410459226021931844887418815160608858319592843697687662021021360276084242642007018883276405889114085177290533134741121609665130619049270358408784775713534961648146554646073031952451716479155781349912614651353520058769592308218169059668756793856247183543877569728520811842172405323072743852736918201846976435705774359245949326552468443054851365429248925319115965374390638582252021137861798345743841250241029063026847369029120329055180985801802468671542335529534542507262816162038587225981581613032254467221080995861830949674618842566825166040007874987850210060833382311944241283105562625
set_option maxRecDepth 100000 in
theorem tab_lit : tabO 0 few = tabL := by decide +kernel
theorem tab_cell {x : Nat} (h : x < 169) : cellS (tabO 0 few) x = cmL.getD x 0 := by
  rw [tab_lit]
  have := allB_of (p := fun x => cellS tabL x == cmL.getD x 0) (m := 169) (by decide +kernel) x h
  simpa using this
theorem take_next (l : List (Nat × Nat)) (i : Nat) (h : i < l.length) : l.take (i + 1) = l.take i ++ [l.getD i (0, 0)] := by
  rw [List.take_succ_eq_append_getElem h]
  simp [List.getElem?_eq_getElem h]
theorem tabI_snoc (a : Nat × Nat) (S : Nat) (l : List (Nat × Nat)) (p : Nat × Nat) : tabI a S (l ++ [p]) = tabI a S l ||| 2 ^ (13 * (13 * relN a mid + relN mid p) + relN a p) := by simp [tabI]
theorem tabO_snoc (S : Nat) (l : List (Nat × Nat)) (p : Nat × Nat) : tabO S (l ++ [p]) = tabI p (tabO S l) few := by simp [tabO]
theorem few_at {i : Nat} (h : i < 91) : (few.getD i (0, 0)).1 < (few.getD i (0, 0)).2 ∧ (few.getD i (0, 0)).2 ≤ 13 := by
  have hl : i < few.length := by rw [few_len]; exact h
  rw [List.getD_eq_getElem?_getD, List.getElem?_eq_getElem hl]
  exact few_ok _ (List.getElem_mem hl)
/-- intervals as cells -/
def ivc (l : List (Nat × Nat)) : List Value := l.flatMap fun p => [.int .i64 p.1, .int .i64 p.2]
theorem ivc_len : ∀ l, (ivc l).length = l.length * 2
  | [] => rfl
  | p :: l => by
    have := ivc_len l
    simp only [ivc] at this
    simp [ivc, this]; omega
theorem ivc_at : ∀ (l : List (Nat × Nat)) (i : Nat), i < l.length → (ivc l)[2 * i]? = some (.int .i64 (l.getD i (0, 0)).1) ∧ (ivc l)[2 * i + 1]? = some (.int .i64 (l.getD i (0, 0)).2)
  | [], i, h => by simp at h
  | p :: l, 0, _ => by simp [ivc]
  | p :: l, i + 1, h => by
    have := ivc_at l i (by simpa using h)
    simp only [ivc] at this
    have e1 : 2 * (i + 1) = 2 * i + 1 + 1 := by omega
    have e2 : 2 * (i + 1) + 1 = 2 * i + 1 + 1 + 1 := by omega
    simp only [ivc, List.flatMap_cons, List.cons_append, List.nil_append, e1]
    simpa using this
theorem own_belowT {w w' : World} {base e size n : Nat} {v : Value} {xs : List Value} (h : w.ownsRow base e size v n xs) (hb : Below w.heap.size w w') : w'.ownsRow base e size v n xs :=
  h.kept (row := none) ⟨hb.os, hb.tape, hb.output, hb.size, fun k hk _ => hb.block k hk⟩ (by cases hv : v.ownBlock <;> simp)
end
section
open Go.RowKit
set_option linter.unusedVariables false
set_option linter.unusedSimpArgs false
end
end Go.Proofs.YtmdgkhebefnfeaaDoor.C
