/- Chapter 4: convex hulls: the model's words. -/
import Derived.Test.YtmdgkhebefnfeaaDoorLat4
import Derived.Deep.RegionWith
import Derived.Deep.RegionHeld3
namespace Go.Proofs.YtmdgkhebefnfeaaDoor.C
open Go.RowKit
set_option linter.unusedVariables false
set_option linter.unusedSimpArgs false
/-- Two numbers in a block. -/
structure PrAt (w : World) (b : Nat) (x y : Int) : Prop where
  c0 : w.cell? ⟨b, 0, none⟩ = some (.int .i64 x)
  c1 : w.cell? ⟨b, 1, none⟩ = some (.int .i64 y)
  lt : b < w.heap.size
theorem PrAt.below {w w' : World} {b : Nat} {x y : Int} (h : PrAt w b x y) (hb : Below w.heap.size w w') : PrAt w' b x y :=
  ⟨(hb.cell (p := ⟨b, 0, none⟩) h.lt).trans h.c0, (hb.cell (p := ⟨b, 1, none⟩) h.lt).trans h.c1, Nat.lt_of_lt_of_le h.lt hb.size⟩
theorem PrAt.made (w : World) (m : Nat) (x y : Int) (t : TypeId) : PrAt ((w.drewN m).alloc (.cells #[.int .i64 x, .int .i64 y] t)) w.heap.size x y := by
  have key : ∀ W : World, PrAt (W.alloc (.cells #[.int .i64 x, .int .i64 y] t)) W.heap.size x y := fun W => ⟨by simp [go_sem], by simp [go_sem], by simp⟩
  exact key (w.drewN m)
end Go.Proofs.YtmdgkhebefnfeaaDoor.C
