/- A network that has been read, as 37 cells: the size, and six rows of six relations. -/
import Derived.Test.YtmdgkhebefnfeaaDoorNetE
import Derived.Test.YtmdgkhebefnfeaaDoorTwo
import Derived.Laws.Rows
import Derived.Laws.Tables
import Derived.Laws.ResultCell
import Derived.Great.Walk
import Derived.Great.Ranges
namespace Go.Proofs.YtmdgkhebefnfeaaDoor.C
open Go.RowKit
set_option linter.unusedVariables false
def netV (n : Nat) (M : Nat → Nat → Nat) : Array Value := (Value.int .i64 (n : Int) :: (List.range 36).map fun y => Value.int .i64 ((M (y / 6) (y % 6) : Nat) : Int)).toArray
theorem netV_size (n : Nat) (M : Nat → Nat → Nat) : (netV n M).size = 37 := by simp [netV]
theorem netV_0 (n : Nat) (M : Nat → Nat → Nat) : (netV n M)[0]? = some (.int .i64 (n : Int)) := by simp [netV]
theorem netV_succ (n : Nat) (M : Nat → Nat → Nat) {y : Nat} (h : y < 36) : (netV n M)[y + 1]? = some (.int .i64 ((M (y / 6) (y % 6) : Nat) : Int)) := by simp [netV, h]
theorem netV_at (n : Nat) (M : Nat → Nat → Nat) {i k : Nat} (hi : i < 6) (hk : k < 6) : (netV n M)[1 + i * 6 + k]? = some (.int .i64 ((M i k : Nat) : Int)) := by
  have e1 : (i * 6 + k) / 6 = i := by omega
  have e2 : (i * 6 + k) % 6 = k := by omega
  rw [show 1 + i * 6 + k = (i * 6 + k) + 1 by omega, netV_succ n M (by omega), e1, e2]
theorem netV_set (n : Nat) (M : Nat → Nat → Nat) {i k : Nat} (v : Nat) (hi : i < 6) (hk : k < 6) : (netV n M).setIfInBounds (1 + i * 6 + k) (.int .i64 (v : Int)) = netV n (upd M i k v) := by
  apply Array.ext_getElem?
  intro j
  rw [Array.getElem?_setIfInBounds]
  by_cases e : 1 + i * 6 + k = j
  · subst e
    rw [if_pos rfl, if_pos (by rw [netV_size]; omega), netV_at n _ hi hk, upd_at]
  · rw [if_neg e]
    by_cases hj : j < 37
    · cases j with
      | zero => rw [netV_0, netV_0]
      | succ y => rw [netV_succ n M (by omega), netV_succ n _ (by omega), upd_ne M (by omega)]
    · rw [Array.getElem?_eq_none (by rw [netV_size]; omega), Array.getElem?_eq_none (by rw [netV_size]; omega)]
theorem netV_one (n : Nat) (M : Nat → Nat → Nat) : (netV n M).all (·.oneCell') = true := by
  rw [Array.all_eq_true]
  intro i h
  have hi : i < 37 := by rw [netV_size] at h; exact h
  cases i with
  | zero => simp [netV, Value.oneCell']
  | succ y => simp [netV, Value.oneCell']
theorem netV_zero : netV 0 (fun _ _ => 0) = #[.int .i64 0, .int .i64 0, .int .i64 0, .int .i64 0, .int .i64 0, .int .i64 0, .int .i64 0, .int .i64 0, .int .i64 0, .int .i64 0, .int .i64 0, .int .i64 0, .int .i64 0, .int .i64 0, .int .i64 0, .int .i64 0, .int .i64 0, .int .i64 0, .int .i64 0, .int .i64 0, .int .i64 0, .int .i64 0, .int .i64 0, .int .i64 0, .int .i64 0, .int .i64 0, .int .i64 0, .int .i64 0, .int .i64 0, .int .i64 0, .int .i64 0, .int .i64 0, .int .i64 0, .int .i64 0, .int .i64 0, .int .i64 0, .int .i64 0] := by
  rfl
theorem nInfo : (Tryd.prog.info? 86).map (·.size) = some 37 := by kernel_rfl
theorem nInfo2 (n : Nat) (M : Nat → Nat → Nat) : (Tryd.prog.info? 86).map (·.size) = some (netV n M).size := by rw [netV_size]; exact nInfo
theorem nUnd : ∃ fs, Tryd.prog.underlying 86 = some (.struct fs) := ⟨_, Tryd.underlying86⟩
theorem below_setRow {B : Nat} {w w' : World} (h : Below B w w') {g : Nat} (hg : B ≤ g) (cs : Array Value) : Below B w (w'.setRow g cs) :=
  ⟨h.os, h.tape, h.output, by rw [size_setRow]; exact h.size, fun k hk => by
    unfold World.setRow
    rw [Array.getElem?_modify, if_neg (by omega)]
    exact h.block k hk⟩
/-- A network's block. -/
def NB (w : World) (g n : Nat) (M : Nat → Nat → Nat) : Prop := w.heap[g]? = some (.cells (netV n M) 86 (0, 0))
section
variable {w w' : World} {g n : Nat} {M : Nat → Nat → Nat}
theorem NB.lt (h : NB w g n M) : g < w.heap.size := (Array.getElem?_eq_some_iff.1 h).1
theorem NB.made (w : World) (n : Nat) (M : Nat → Nat → Nat) : NB (w.alloc (.cells (netV n M) 86)) w.heap.size n M := heap_alloc_new w _
theorem NB.below {B : Nat} (h : NB w g n M) (hb : Below B w w') (hg : g < B) : NB w' g n M := (hb.block g hg).trans h
theorem NB.below' (h : NB w g n M) (hb : Below w.heap.size w w') : NB w' g n M := h.below hb h.lt
theorem NB.drewN (h : NB w g n M) (k : Nat) : NB (w.drewN k) g n M := h
theorem NB.alloc (h : NB w g n M) (o : Obj) : NB (w.alloc o) g n M := (Below.heap_alloc w o g h.lt).trans h
theorem NB.cell (h : NB w g n M) {i k : Nat} (hi : i < 6) (hk : k < 6) : w.cell? ⟨g, 1 + i * 6 + k, none⟩ = some (.int .i64 ((M i k : Nat) : Int)) := by
  rw [cell_of_row w g _ _ _ _ h]; exact netV_at n M hi hk
theorem NB.cell0 (h : NB w g n M) : w.cell? ⟨g, 0, none⟩ = some (.int .i64 (n : Int)) := by
  rw [cell_of_row w g _ _ _ _ h]; exact netV_0 n M
theorem NB.load (h : NB w g n M) : (Instr.loadAt 86 (.pointer (some ⟨g, 0, none⟩))).run Tryd.prog w = .ok (.agg (netV n M)) w := by
  obtain ⟨fs, hu⟩ := nUnd
  simp only [Instr.loadAt, Instr.sureAddr, Sem.run_bind, Sem.run_pure, Result.andThen_ok, run_loadVar_row w g _ _ _ _ _ h hu rfl (nInfo2 n M)]
/-- .. as the walk's simp meets it, in regions that draw their order, too. -/
theorem NB.run (h : NB w g n M) : ((do let b ← isAgg 86; Next.value <$> (if b = true then (do let k ← sizeOf 86; Value.agg <$> loadCellsFrom ⟨g, 0, none⟩ 0 k #[]) else Go.load ⟨g, 0, none⟩) : Sem Next)).run Tryd.prog w = .ok (.value (.agg (netV n M))) w := by
  obtain ⟨fs, hu⟩ := nUnd
  have h1 := run_loadVar_row w g _ _ _ _ _ h hu rfl (nInfo2 n M)
  have h2 : ((Next.value <$> loadVar 86 ⟨g, 0, none⟩ : Sem Next)).run Tryd.prog w = .ok (.value (.agg (netV n M))) w := by
    simp only [map_eq_pure_bind, Sem.run_bind, h1, Result.andThen_ok, Sem.run_pure]
  simpa [loadVar, loadCells] using h2
theorem NB.frozen (h : NB w g n M) (j : Nat) : w.frozen? ⟨g, j, none⟩ = false := frozen_of_row w g j _ _ h
theorem NB.set (h : NB w g n M) {i k : Nat} (v : Nat) (hi : i < 6) (hk : k < 6) : NB (w.setCell ⟨g, 1 + i * 6 + k, none⟩ (.int .i64 (v : Int))) g n (upd M i k v) := by
  unfold NB
  rw [heap_setCell_same w g _ _ _ _ h, netV_set n M v hi hk]
theorem NB.far (h : NB w g n M) {p : Addr} (hp : g ≠ p.block) (u : Value) : NB (w.setCell p u) g n M := (heap_setCell_other w p g u hp).trans h
theorem NB.row (h : NB w g n M) (m : Nat) (N : Nat → Nat → Nat) : NB (w.setRow g (netV m N)) g m N := setRow_heap w g (netV n M) (netV m N) _ _ h
theorem NB.rowFar {b : Nat} (h : NB w g n M) (hb : g ≠ b) (cs : Array Value) : NB (w.setRow b cs) g n M := by
  unfold NB World.setRow at *
  rw [Array.getElem?_modify, if_neg (fun e => hb e.symm)]
  exact h
theorem NB.congr {N : Nat → Nat → Nat} (h : NB w g n M) (e : M = N) : NB w g n N := by rw [← e]; exact h
end
section
variable {ops : Array Oper} {rest : List Oper} {o : Oper} {a : Act} {w : World} {Q : Exit → Act → World → Prop}
/-- A network read whole. -/
theorem ld_net {g n : Nat} {M : Nat → Nat → Nat} (hgd : o.guard = none) (x : Operand) (ho : o.op = .load 86 x) (hx : a.eval x = .pointer (some ⟨g, 0, none⟩)) (hg : NB w g n M)
    (h : wpList Tryd.prog ops Q rest (a.put o.dst (.agg (netV n M))) w) : wpList Tryd.prog ops Q (o :: rest) a w := by
  obtain ⟨fs, hu⟩ := nUnd
  exact wpList_load_row hgd _ x ho g hx _ _ _ _ hg hu rfl (nInfo2 n M) h
/-- .. and written whole. -/
theorem st_net {g n m : Nat} {M N : Nat → Nat → Nat} (hgd : o.guard = none) (x y : Operand) (ho : o.op = .store 86 x y) (hx : a.eval x = .pointer (some ⟨g, 0, none⟩)) (hy : a.eval y = .agg (netV m N)) (hg : NB w g n M)
    (h : wpList Tryd.prog ops Q rest (a.put o.dst undef) (w.setRow g (netV m N))) : wpList Tryd.prog ops Q (o :: rest) a w :=
  wpList_store_row hgd _ x y ho g _ hx hy _ _ hg (nInfo2 m N) (by rw [netV_size, netV_size]) (netV_one m N) h
set_option maxRecDepth 100000 in
/-- A new variable for one. -/
theorem al_net (hgd : o.guard = none) (ho : o.op = .alloc 86)
    (h : wpList Tryd.prog ops Q rest (a.put o.dst (.pointer (some ⟨w.heap.size, 0, none⟩))) (w.alloc (.cells (netV 0 fun _ _ => 0) 86))) : wpList Tryd.prog ops Q (o :: rest) a w := by
  refine Great.wpList_allocTo hgd o.dst rfl (.pointer (some ⟨w.heap.size, 0, none⟩)) (.cells (netV 0 fun _ _ => 0) 86) ?_ h
  obtain ⟨op, dst⟩ := o
  simp only at ho
  subst ho
  rw [netV_zero]
  simp [execOp, go_sem, Tryd.zeroValue86]
set_option maxRecDepth 100000 in
/-- The zero network. -/
theorem bu_net (hgd : o.guard = none) (ho : o.op = .build 86 #[])
    (h : wpList Tryd.prog ops Q rest (a.put o.dst (.agg (netV 0 fun _ _ => 0))) w) : wpList Tryd.prog ops Q (o :: rest) a w := by
  have e : Tryd.prog.built 86 [] = some (netV 0 fun _ _ => 0) := by rw [netV_zero]; kernel_rfl
  exact wpList_build hgd _ #[] ho (by simp [e]) (by simpa [e] using h)
theorem netV_free (n : Nat) : netV n (fun _ _ => 0) = #[.int .i64 n, .int .i64 0, .int .i64 0, .int .i64 0, .int .i64 0, .int .i64 0, .int .i64 0, .int .i64 0, .int .i64 0, .int .i64 0, .int .i64 0, .int .i64 0, .int .i64 0, .int .i64 0, .int .i64 0, .int .i64 0, .int .i64 0, .int .i64 0, .int .i64 0, .int .i64 0, .int .i64 0, .int .i64 0, .int .i64 0, .int .i64 0, .int .i64 0, .int .i64 0, .int .i64 0, .int .i64 0, .int .i64 0, .int .i64 0, .int .i64 0, .int .i64 0, .int .i64 0, .int .i64 0, .int .i64 0, .int .i64 0, .int .i64 0] := by
  rfl
set_option maxRecDepth 100000 in
/-- A network of so many nodes, without relations. -/
theorem bu_net1 (hgd : o.guard = none) (x : Operand) (ho : o.op = .build 86 #[(0, x)]) (n : Nat) (hx : a.eval x = .agg #[.int .i64 (n : Int)])
    (h : wpList Tryd.prog ops Q rest (a.put o.dst (.agg (netV n fun _ _ => 0))) w) : wpList Tryd.prog ops Q (o :: rest) a w := by
  have e : Tryd.prog.built 86 [(0, .agg #[.int .i64 (n : Int)])] = some (netV n fun _ _ => 0) := by rw [netV_free]; kernel_rfl
  exact wpList_build hgd _ #[(0, x)] ho (by simp [hx, e]) (by simpa [hx, e] using h)
/-- What is returned as a network and a bool. -/
theorem res_net2 {fn : Func} {p u : Tmp} (h : fn.results = #[.cell p 86, .tmp u]) (tmps : Array Value) (g n : Nat) (M : Nat → Nat → Nat) (v : Value) (hp : tmps.getD p undef = .pointer (some ⟨g, 0, none⟩)) (hu : tmps.getD u undef = v) (hg : NB w g n M) :
    (results fn tmps).run Tryd.prog w = .ok (.tuple #[.agg (netV n M), v]) w := by
  obtain ⟨fs, hus⟩ := nUnd
  have hp' : tmps[p]?.getD undef = .pointer (some ⟨g, 0, none⟩) := by simpa using hp
  rw [results_cell_tmp h]
  simp [asAddr, hp', hu, Result.andThen, run_loadVar_row w g _ _ _ _ _ hg hus rfl (nInfo2 n M)]
theorem res_net1 {fn : Func} {p : Tmp} (h : fn.results = #[.cell p 86]) (tmps : Array Value) (g n : Nat) (M : Nat → Nat → Nat) (hp : tmps.getD p undef = .pointer (some ⟨g, 0, none⟩)) (hg : NB w g n M) :
    (results fn tmps).run Tryd.prog w = .ok (.agg (netV n M)) w := by
  obtain ⟨fs, hus⟩ := nUnd
  exact results_cell_row h tmps w g _ _ _ _ hp hg hus rfl (nInfo2 n M)
end
end Go.Proofs.YtmdgkhebefnfeaaDoor.C
