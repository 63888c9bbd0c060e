/- The free network: the model's table, and the exact law. -/
import Derived.Test.YtlmmjdaipedjjaaGreatDoorNetL
import Derived.Deep.AppendLies
namespace Go.Proofs.YtlmmjdaipedjjaaGreatDoor.C
open Go.RowKit
set_option linter.unusedVariables false
set_option linter.unusedSimpArgs false
/-- a row of relations, as cells -/
def rowL (L : Nat → Nat) (m : Nat) : List Value := (List.range m).map fun x => .int .i64 ((L x : Nat) : Int)
theorem rowL_succ (L : Nat → Nat) (m : Nat) : rowL L m ++ [.int .i64 ((L m : Nat) : Int)] = rowL L (m + 1) := by simp [rowL, List.range_succ]
theorem own_rowL {w : World} {b T m m' : Nat} {v : Value} {L : Nat → Nat} (h : w.ownsRow b T 1 v m (rowL L m)) (e : m = m') : w.ownsRow b T 1 v m' (rowL L m') := by rw [← e]; exact h
theorem netInt : (Tryz.prog.info? 3).map (fun i => (i.zero, i.size, i.bytes)) = some (some (.int .i64 0), 1, 8) := by kernel_rfl
/-- A table of relations in a block of its own. -/
def Tk (w : World) (g : Nat) (z : Int) (v : Value) : Prop := w.heap[g]? = some (.cells #[.int .i64 z, v] 38 (0, 0))
section
variable {w w' : World} {g : Nat} {z : Int} {v : Value}
theorem Tk.lt (h : Tk w g z v) : g < w.heap.size := (Array.getElem?_eq_some_iff.1 h).1
theorem Tk.made (w : World) (z : Int) (v : Value) : Tk (w.alloc (.cells #[.int .i64 z, v] 38)) w.heap.size z v := heap_alloc_new w _
theorem Tk.alloc (h : Tk w g z v) (o : Obj) : Tk (w.alloc o) g z v := (Below.heap_alloc w o g h.lt).trans h
theorem Tk.below {B : Nat} (h : Tk w g z v) (hb : Below B w w') (hg : g < B) : Tk w' g z v := (hb.block g hg).trans h
theorem Tk.c0 (h : Tk w g z v) : w.cell? ⟨g, 0, none⟩ = some (.int .i64 z) := by rw [cell_of_row w g _ _ _ _ h]; rfl
theorem Tk.c1 (h : Tk w g z v) : w.cell? ⟨g, 1, none⟩ = some v := by rw [cell_of_row w g _ _ _ _ h]; rfl
theorem Tk.fr (h : Tk w g z v) (j : Nat) : w.frozen? ⟨g, j, none⟩ = false := frozen_of_row w g j _ _ h
theorem Tk.set1 (h : Tk w g z v) (u : Value) : Tk (w.setCell ⟨g, 1, none⟩ u) g z u := by
  unfold Tk
  rw [heap_setCell_same w g _ _ _ _ h]; rfl
theorem Tk.far (h : Tk w g z v) {p : Addr} (hp : g ≠ p.block) (u : Value) : Tk (w.setCell p u) g z v := (heap_setCell_other w p g u hp).trans h
end
theorem own_set {w : World} {b e size n : Nat} {v : Value} {xs : List Value} (h : w.ownsRow b e size v n xs) {p : Addr} (hp : p.block < b) (u : Value) : (w.setCell p u).ownsRow b e size v n xs := by
  obtain ⟨h1, h2⟩ := h
  refine ⟨h1, h2.imp id ?_⟩
  rintro ⟨g, cap, cur, hv, hB, hg, r⟩
  exact ⟨g, cap, cur, hv, hB, (heap_setCell_other w p g u (by omega)).trans hg, r⟩
theorem eqNet_same (z : Int) (s : ByteArray) (w : World) :
    Calls Tryz.prog 8 #[.agg #[.int .i64 z, .string s], .agg #[.int .i64 z, .string s]] w fun e w' => e = .returned (.bool true) ∧ Below w.heap.size w w' := by
  have HS := AllLt.start w; go_enter Tryz.func8, Tryz.ntmps8
  go_wp2
  go_ret
  exact ⟨rfl, by (repeat' (first | (with_reducible exact Below.refl _ _) | (with_reducible refine Below.setCell ?_ ?_ _) | (with_reducible refine below_drewN' ?_ _) | (with_reducible refine below_drew' ?_) | (with_reducible refine Below.alloc ?_ ?_ _) | (with_reducible assumption) | go_size))⟩
end Go.Proofs.YtlmmjdaipedjjaaGreatDoor.C
