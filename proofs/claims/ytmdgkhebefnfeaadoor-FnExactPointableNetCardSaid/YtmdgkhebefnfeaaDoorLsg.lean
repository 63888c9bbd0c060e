/- Chapter 4: copies of lists, what is in them, lists grown by what is around; closures, neighbors, steps. -/
import Derived.Test.YtmdgkhebefnfeaaDoorLsb
import Derived.Lib.Walk
namespace Go.Proofs.YtmdgkhebefnfeaaDoor.C
open Go.RowKit
set_option linter.unusedVariables false
set_option linter.unusedSimpArgs false
def inL (l : List Nat) (x : Nat) : Bool := decide (x ∈ l)
theorem takeN (l : List Nat) (i : Nat) (h : i < l.length) : l.take (i + 1) = l.take i ++ [l.getD i 0] := by
  rw [List.take_succ_eq_append_getElem h]
  simp [List.getElem?_eq_getElem h]
theorem getN_mem {l : List Nat} {i : Nat} (h : i < l.length) : l.getD i 0 ∈ l := by
  rw [List.getD_eq_getElem?_getD, List.getElem?_eq_getElem h]
  exact List.getElem_mem h
theorem nodup_growL {f : Nat → List Nat} : ∀ {l all : List Nat}, all.Nodup → (growL f l all).Nodup
  | [], all, h => h
  | x :: l, all, h => nodup_growL (l := l) (nodup_addAll h)
theorem grow_take {f : Nat → List Nat} {l all : List Nat} {k : Nat} (hk : k < l.length) : growL f (l.take (k + 1)) all = addAll (growL f (l.take k) all) (f (l.getD k 0)) := by
  rw [takeN l k hk, growL_snoc]
theorem add_take {ys all : List Nat} {k : Nat} (hk : k < ys.length) : addAll all (ys.take (k + 1)) = if inL (addAll all (ys.take k)) (ys.getD k 0) then addAll all (ys.take k) else addAll all (ys.take k) ++ [ys.getD k 0] := by
  rw [takeN ys k hk, addAll_snoc]
  simp [inL]
/-- A slice whose elements are l, in a block from B on. -/
theorem Bs.ls2 {w : World} {B : Nat} {v : Value} {l : List Nat} (h : Bs w B v l) :
    ∃ a cap, v = .slice a l.length cap ∧ ∀ i, i < l.length → ∃ g, a = some ⟨g, 0, none⟩ ∧ B ≤ g ∧ g < w.heap.size ∧ w.cell? ⟨g, i, none⟩ = some (.int .i64 ((l.getD i 0 : Nat) : Int)) := by
  have h0 := h
  rcases h.2 with ⟨rfl, hn⟩ | ⟨g, cap, cur, rfl, hB, hg, h1, h2, h3, h4⟩
  · exact ⟨none, 0, by rw [hn], fun i hi => by omega⟩
  · exact ⟨_, cap, rfl, fun i hi => ⟨g, rfl, hB, (Array.getElem?_eq_some_iff.1 hg).1, own_at h0 hi⟩⟩
end Go.Proofs.YtmdgkhebefnfeaaDoor.C
