/- The exact law of the orders of the ends. -/
import Derived.Test.YtnhpjjbblegnaabDoorEndsOf
namespace Go.Proofs.YtnhpjjbblegnaabDoor.C
open Go.RowKit
set_option linter.unusedVariables false
set_option linter.unusedSimpArgs false
/-- A slice in a row at block b, if it has elements. -/
def RowAt (w : World) (b cap n : Nat) (f : Nat → Int) : Prop := n ≤ cap ∧ b < w.heap.size ∧ ∀ i, i < n → w.cell? ⟨b, i, none⟩ = some (.int .i64 (f i))
theorem RowAt.sl {w : World} {b cap n : Nat} {f : Nat → Int} (h : RowAt w b cap n f) : Sl w (.slice (some ⟨b, 0, none⟩) n cap) n f := .inr ⟨b, cap, rfl, h.1, h.2.2⟩
theorem RowAt.below {w w' : World} {b cap n : Nat} {f : Nat → Int} (h : RowAt w b cap n f) (hb : Below w.heap.size w w') : RowAt w' b cap n f :=
  ⟨h.1, Nat.lt_of_lt_of_le h.2.1 hb.size, fun i hi => by rw [hb.cell (p := ⟨b, i, none⟩) h.2.1]; exact h.2.2 i hi⟩
theorem RowAt.wr {w w' : World} {b cap n q : Nat} {f : Nat → Int} (h : RowAt w b cap n f) (hW : Wr q w w') (hq : b ≠ q) : RowAt w' b cap n f :=
  ⟨h.1, Nat.lt_of_lt_of_le h.2.1 hW.size, fun i hi => by rw [hW.cell h.2.1 hq]; exact h.2.2 i hi⟩
theorem RowAt.drewN {w : World} {b cap n : Nat} {f : Nat → Int} (h : RowAt w b cap n f) (m : Nat) : RowAt (w.drewN m) b cap n f := h
/-- What an exact law asks of a slice that is new: as a row, or empty. -/
theorem NewSl.cases {w : World} {n : Nat} {f : Nat → Int} {v : Value} {w' : World} (h : NewSl w n f v w') :
    Below w.heap.size w w' ∧ ((n = 0 ∧ ∃ a c, v = .slice a 0 c) ∨ (0 < n ∧ ∃ b cap, v = .slice (some ⟨b, 0, none⟩) n cap ∧ w.heap.size ≤ b ∧ RowAt w' b cap n f ∧ ∀ i, i < n → w'.frozen? ⟨b, i, none⟩ = false)) := by
  obtain ⟨h1, h2⟩ := h
  refine ⟨h1, ?_⟩
  rcases h2 with h2 | ⟨b, cap, rfl, h3, h4, h5, h6, h7⟩
  · exact .inl h2
  · by_cases hn : n = 0
    · subst hn; exact .inl ⟨rfl, _, _, rfl⟩
    · exact .inr ⟨by omega, b, cap, rfl, h4, ⟨h3, h5, h6⟩, h7⟩
end Go.Proofs.YtnhpjjbblegnaabDoor.C
