/- Two networks in the model: what both allow, whether one lies within the other. -/
import Derived.Test.YtnogdjmciekieaaDoorNts
import Derived.Test.YtnogdjmciekieaaDoorNetR
import Derived.Test.YtnogdjmciekieaaDoorCloS
import Derived.Deep.DeepCutAuto
import Derived.BigQuiet
namespace Go.Proofs.YtnogdjmciekieaaDoor.C
open Go.RowKit
set_option linter.unusedVariables false
set_option linter.unusedSimpArgs false
/-- Numbers in the cells of a block, which may be written. -/
def Rw (w : World) (g nn : Nat) (L : Nat → Nat) : Prop := g < w.heap.size ∧ ∀ j, j < nn → w.cell? ⟨g, j, none⟩ = some (.int .i64 ((L j : Nat) : Int)) ∧ w.frozen? ⟨g, j, none⟩ = false
theorem Rw.below {w w' : World} {g nn : Nat} {L : Nat → Nat} (h : Rw w g nn L) (hb : Below w.heap.size w w') : Rw w' g nn L :=
  ⟨Nat.lt_of_lt_of_le h.1 hb.size, fun j hj => ⟨(hb.cell (p := ⟨g, j, none⟩) h.1).trans (h.2 j hj).1, (hb.frozen (p := ⟨g, j, none⟩) h.1).trans (h.2 j hj).2⟩⟩
theorem Rw.alloc {w : World} {g nn : Nat} {L : Nat → Nat} (h : Rw w g nn L) (o : Obj) : Rw (w.alloc o) g nn L := h.below ((Below.refl _ _).alloc (Nat.le_refl _) o)
theorem Rw.drew {w : World} {g nn : Nat} {L : Nat → Nat} (h : Rw w g nn L) : Rw w.drew g nn L := h
theorem Rw.drewN {w : World} {g nn : Nat} {L : Nat → Nat} (h : Rw w g nn L) (k : Nat) : Rw (w.drewN k) g nn L := h
theorem Rw.far {w : World} {g nn : Nat} {L : Nat → Nat} (h : Rw w g nn L) {x i : Nat} (hx : g ≠ x) (u : Value) : Rw (w.setCell ⟨x, i, none⟩ u) g nn L := by
  have hh := heap_setCell_other w ⟨x, i, none⟩ g u hx
  refine ⟨by simpa using h.1, fun j hj => ⟨(World.cell?_of_block (a := ⟨g, j, none⟩) hh).trans (h.2 j hj).1, (World.frozen?_of_block (a := ⟨g, j, none⟩) hh).trans (h.2 j hj).2⟩⟩
theorem Rw.put {w : World} {g nn i : Nat} {L : Nat → Nat} (h : Rw w g nn L) (hi : i < nn) (r : Nat) : Rw (w.setCell ⟨g, i, none⟩ (.int .i64 ((r : Nat) : Int))) g nn (updL L i r) := by
  refine ⟨by simpa using h.1, fun j hj => ⟨?_, by simpa [go_sem] using (h.2 j hj).2⟩⟩
  have hi2 := (h.2 i hi).1
  have hj2 := (h.2 j hj).1
  by_cases e : j = i
  · subst e
    simp [go_sem, hi2, updL]
  · simp [go_sem, hj2, updL, e]
theorem Rw.congr {w : World} {g nn : Nat} {L M : Nat → Nat} (h : Rw w g nn L) (e : ∀ j, j < nn → L j = M j) : Rw w g nn M := ⟨h.1, fun j hj => by rw [← e j hj]; exact h.2 j hj⟩
theorem Rw.of_own {w : World} {b T m g cap k : Nat} {L : Nat → Nat} (h : w.ownsRow b T 1 (.slice (some ⟨g, 0, none⟩) k cap) m (rowL L m)) (hm : 0 < m) : Rw w g m L := by
  refine ⟨?_, fun j hj => ?_⟩
  · obtain ⟨g', cap', hv, _, hl, _⟩ := row_at h hm
    cases hv; exact hl
  · obtain ⟨g', cap', hv, _, _, h1, h2⟩ := row_at h hj
    cases hv; exact ⟨h1, h2⟩
theorem Rw.ts {w : World} {g m cap : Nat} {L : Nat → Nat} (h : Rw w g m L) : Ts w w.heap.size (.slice (some ⟨g, 0, none⟩) m cap) m L := ⟨_, _, rfl, fun j hj => ⟨g, rfl, h.1, (h.2 j hj).1⟩⟩
end Go.Proofs.YtnogdjmciekieaaDoor.C
