/- The program's edges of a network. -/
import Derived.Test.YtdamnhigdaklcaaNetF
import Derived.Test.YtdamnhigdaklcaaNetE
import Derived.OwnWalk
import Derived.Laws.AppendOwn
import Derived.Deep.RegionHeld3
namespace Go.Proofs.Ytdamnhigdaklcaa.C
open Go.RowKit
set_option linter.unusedVariables false
set_option linter.unusedSimpArgs false
theorem own_below' {w w' : World} {base e size n : Nat} {v : Value} {xs : List Value} (h : w.ownsRow base e size v n xs) (hb : Below w.heap.size w w') : w'.ownsRow base e size v n xs :=
  h.kept (row := none) ⟨hb.os, hb.tape, hb.output, hb.size, fun k hk _ => hb.block k hk⟩ (by cases hv : v.ownBlock <;> simp)
/-- the cells of edges -/
def edC (M : Nat → Nat → Nat) (l : List (Nat × Nat)) : List Value := l.flatMap fun p => [.int .i64 (p.1 : Int), .int .i64 ((M p.1 p.2 : Nat) : Int), .int .i64 (p.2 : Int)]
theorem edC_snoc (M : Nat → Nat → Nat) (l : List (Nat × Nat)) (i k : Nat) : edC M (l ++ [(i, k)]) = edC M l ++ [.int .i64 (i : Int), .int .i64 ((M i k : Nat) : Int), .int .i64 (k : Int)] := by simp [edC]
theorem edC_len (M : Nat → Nat → Nat) : ∀ l : List (Nat × Nat), (edC M l).length = l.length * 3
  | [] => rfl
  | p :: l => by
    have := edC_len M l
    simp only [edC, List.flatMap_cons, List.length_append, List.length_cons] at *
    simp only [List.length_nil]
    omega
theorem edC_at (M : Nat → Nat → Nat) : ∀ (l : List (Nat × Nat)) (j : Nat), j < l.length → (edC M l)[3 * j]? = some (.int .i64 ((l.getD j (0, 0)).1 : Int)) ∧ (edC M l)[3 * j + 1]? = some (.int .i64 ((M (l.getD j (0, 0)).1 (l.getD j (0, 0)).2 : Nat) : Int)) ∧ (edC M l)[3 * j + 2]? = some (.int .i64 ((l.getD j (0, 0)).2 : Int))
  | [], j, h => by simp at h
  | p :: l, 0, _ => by simp [edC]
  | p :: l, j + 1, h => by
    have := edC_at M l j (by simpa using h)
    rw [show 3 * (j + 1) = 3 * j + 3 by omega]
    simpa [edC] using this
end Go.Proofs.Ytdamnhigdaklcaa.C
