/- Chapter 4: convex hulls: the program's walks. -/
import Derived.Test.YtmdgkhebefnfeaaDoorLsg
import Derived.Deep.RegionWith
import Derived.Deep.RegionHeld3
namespace Go.Proofs.YtmdgkhebefnfeaaDoor.C
open Go.RowKit
set_option linter.unusedVariables false
set_option linter.unusedSimpArgs false
theorem ret_a2 {a b a' b' : Int} (h : a = a') (h' : b = b') : Ending.returned (.agg #[.int .i64 a, .int .i64 b]) = .returned (.agg #[.int .i64 a', .int .i64 b']) := by rw [h, h']
/-- Two zones in a block. -/
structure SpAt (w : World) (b : Nat) (x y : Int) : Prop where
  c0 : w.cell? ⟨b, 0, none⟩ = some (.int .i64 x)
  c1 : w.cell? ⟨b, 1, none⟩ = some (.int .i64 y)
  f : ∀ i, w.frozen? ⟨b, i, none⟩ = false
  lt : b < w.heap.size
theorem SpAt.f0 {w w' : World} {b : Nat} {x y : Int} (h : SpAt w b x y) (hb : Below w.heap.size w w') : ∀ i, w'.frozen? ⟨b, i, none⟩ = false := fun i => (hb.frozen (p := ⟨b, i, none⟩) h.lt).trans (h.f i)
theorem sp_set {w : World} {A : Nat} {a1 a2 a3 a4 x y z u : Int} (h1 : SpAt w A a1 a2) (h2 : SpAt w (A + 1) a3 a4) :
    SpAt ((((w.setCell ⟨A, 0, none⟩ (.int .i64 x)).setCell ⟨A, 1, none⟩ (.int .i64 y)).setCell ⟨A + 1, 0, none⟩ (.int .i64 z)).setCell ⟨A + 1, 1, none⟩ (.int .i64 u)) A x y ∧
    SpAt ((((w.setCell ⟨A, 0, none⟩ (.int .i64 x)).setCell ⟨A, 1, none⟩ (.int .i64 y)).setCell ⟨A + 1, 0, none⟩ (.int .i64 z)).setCell ⟨A + 1, 1, none⟩ (.int .i64 u)) (A + 1) z u ∧
    (∀ b i, A + 1 < b → ((((w.setCell ⟨A, 0, none⟩ (.int .i64 x)).setCell ⟨A, 1, none⟩ (.int .i64 y)).setCell ⟨A + 1, 0, none⟩ (.int .i64 z)).setCell ⟨A + 1, 1, none⟩ (.int .i64 u)).cell? ⟨b, i, none⟩ = w.cell? ⟨b, i, none⟩) ∧
    ((((w.setCell ⟨A, 0, none⟩ (.int .i64 x)).setCell ⟨A, 1, none⟩ (.int .i64 y)).setCell ⟨A + 1, 0, none⟩ (.int .i64 z)).setCell ⟨A + 1, 1, none⟩ (.int .i64 u)).heap.size = w.heap.size := by
  obtain ⟨c0, c1, f1, l1⟩ := h1
  obtain ⟨d0, d1, f2, l2⟩ := h2
  refine ⟨⟨?_, ?_, fun i => ?_, ?_⟩, ⟨?_, ?_, fun i => ?_, ?_⟩, fun b i hb => ?_, ?_⟩
  · simp [go_sem, c0, c1, d0, d1]
  · simp [go_sem, c0, c1, d0, d1]
  · simp [go_sem, f1]
  · simpa using l1
  · simp [go_sem, c0, c1, d0, d1]
  · simp [go_sem, c0, c1, d0, d1]
  · simp [go_sem, f2]
  · simpa using l2
  · have e1 : ¬ A + 1 = b := by omega
    have e2 : ¬ A = b := by omega
    have e3 : ¬ b = A + 1 := by omega
    have e4 : ¬ b = A := by omega
    simp [go_sem, e1, e2, e3, e4]
  · simp
theorem SpAt.below {w w' : World} {b : Nat} {x y : Int} (h : SpAt w b x y) (hb : Below w.heap.size w w') : SpAt w' b x y :=
  ⟨(hb.cell (p := ⟨b, 0, none⟩) h.lt).trans h.c0, (hb.cell (p := ⟨b, 1, none⟩) h.lt).trans h.c1, fun i => (hb.frozen (p := ⟨b, i, none⟩) h.lt).trans (h.f i), Nat.lt_of_lt_of_le h.lt hb.size⟩
end Go.Proofs.YtmdgkhebefnfeaaDoor.C
