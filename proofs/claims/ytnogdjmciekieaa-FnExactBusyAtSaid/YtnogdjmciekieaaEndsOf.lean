/- Walks over the orders of the ends of two intervals, as a slice. -/
import Derived.Test.YtnogdjmciekieaaInts
import Derived.Test.YtnogdjmciekieaaEnd
import Derived.Test.YtnogdjmciekieaaTabS
namespace Go.Proofs.Ytnogdjmciekieaa.C
open Go.RowKit
set_option linter.unusedVariables false
set_option linter.unusedSimpArgs false
/-- A slice of the call's own. -/
def NewSl (w : World) (n : Nat) (f : Nat → Int) (v : Value) (w' : World) : Prop :=
  Below w.heap.size w w' ∧ ((n = 0 ∧ ∃ a c, v = .slice a 0 c) ∨ ∃ b cap, v = .slice (some ⟨b, 0, none⟩) n cap ∧ n ≤ cap ∧ w.heap.size ≤ b ∧ b < w'.heap.size ∧ (∀ i, i < n → w'.cell? ⟨b, i, none⟩ = some (.int .i64 (f i))) ∧ ∀ i, i < n → w'.frozen? ⟨b, i, none⟩ = false)
def NewS (w : World) (n : Nat) (f : Nat → Int) (e : Ending) (w' : World) : Prop := ∃ v, e = .returned v ∧ NewSl w n f v w'
def eoF (k : Nat) : Nat → Int
  | 0 => ord (zf k) 1
  | 1 => ord (zf k) 3
  | 2 => ord (zt k) 1
  | _ => ord (zt k) 3
theorem four {P : Nat → Prop} (h0 : P 0) (h1 : P 1) (h2 : P 2) (h3 : P 3) : ∀ i, i < 4 → P i := fun i hi => by
  obtain rfl | rfl | rfl | rfl : i = 0 ∨ i = 1 ∨ i = 2 ∨ i = 3 := by omega
  · exact h0
  · exact h1
  · exact h2
  · exact h3
theorem new_cellN (w : World) (n : Nat) (cs : Array Value) (t : TypeId) (i : Nat) : ((w.drewN n).alloc (.cells cs t)).cell? ⟨w.heap.size, i, none⟩ = cs[i]? := by
  have key : ∀ W : World, (W.alloc (.cells cs t)).cell? ⟨W.heap.size, i, none⟩ = cs[i]? := fun W => by simp [go_sem]
  exact key (w.drewN n)
theorem new_freeN (w : World) (n : Nat) (cs : Array Value) (t : TypeId) (i : Nat) : ((w.drewN n).alloc (.cells cs t)).frozen? ⟨w.heap.size, i, none⟩ = false := by
  have key : ∀ W : World, (W.alloc (.cells cs t)).frozen? ⟨W.heap.size, i, none⟩ = false := fun W => by simp [go_sem]
  exact key (w.drewN n)
end Go.Proofs.Ytnogdjmciekieaa.C
