/- The program reads a network. -/
import Derived.Test.YtlmmjdaipedjjaaDoorNetI
import Derived.Test.YtlmmjdaipedjjaaDoorNetG
import Derived.Deep.RegionWith
import Derived.Deep.WholeRow
namespace Go.Proofs.YtlmmjdaipedjjaaDoor.C
open Go.RowKit
set_option linter.unusedVariables false
set_option linter.unusedSimpArgs false
/-- the matrix under way -/
def stg (n : Nat) (s : ByteArray) (i k : Nat) : Nat → Nat → Nat := fun a b => if a < n ∧ b < n then (if a < i ∨ a = i ∧ b < k then mx n s a b else freR n a b) else 0
theorem stg_start (n : Nat) (s : ByteArray) : stg n s 0 0 = freR n := by
  funext a b
  unfold stg
  split
  · rw [if_neg (by omega)]
  · rename_i h; rw [freR_off h]
theorem stg_end (n : Nat) (s : ByteArray) : stg n s n 0 = mx n s := by
  funext a b
  unfold stg
  split
  · rw [if_pos (by omega)]
  · rename_i h; rw [mx_off h]
theorem stg_row {n i : Nat} (s : ByteArray) : stg n s i n = stg n s (i + 1) 0 := by
  funext a b
  unfold stg
  split
  · have : (a < i ∨ a = i ∧ b < n) ↔ (a < i + 1 ∨ a = i + 1 ∧ b < 0) := by omega
    simp only [this]
  · rfl
theorem stg_one {n i k : Nat} (s : ByteArray) (hi : i < n) (hk : k < n) : upd (stg n s i k) i k (mx n s i k) = stg n s i (k + 1) := by
  funext a b
  unfold upd stg
  by_cases e : a = i ∧ b = k
  · obtain ⟨rfl, rfl⟩ := e
    rw [if_pos ⟨rfl, rfl⟩, if_pos ⟨hi, hk⟩, if_pos (by omega)]
  · rw [if_neg e]
    split
    · have : (a < i ∨ a = i ∧ b < k) ↔ (a < i ∨ a = i ∧ b < k + 1) := by omega
      simp only [this]
    · rfl
theorem size2 (w : World) (A B : Obj) : w.heap.size + 2 ≤ ((w.alloc A).alloc B).heap.size := by simp
/-- What networkOf knows of the world. -/
structure NO (w wr : World) (z : Int) (s : ByteArray) (b n : Nat) (M : Nat → Nat → Nat) : Prop where
  a0 : wr.cell? ⟨w.heap.size, 0, none⟩ = some (.int .i64 z)
  a1 : wr.cell? ⟨w.heap.size, 1, none⟩ = some (.string s)
  res : NB wr (w.heap.size + 1) 0 fun _ _ => 0
  loc : NB wr b n M
  bel : Below w.heap.size w wr
  lt : w.heap.size + 1 < b
theorem NO.below {w wr wr' : World} {z : Int} {s : ByteArray} {b n : Nat} {M : Nat → Nat → Nat} (h : NO w wr z s b n M) (hb : Below wr.heap.size wr wr') : NO w wr' z s b n M where
  a0 := by have := h.res.lt; rw [hb.cell (p := ⟨w.heap.size, 0, none⟩) (by simp; omega)]; exact h.a0
  a1 := by have := h.res.lt; rw [hb.cell (p := ⟨w.heap.size, 1, none⟩) (by simp; omega)]; exact h.a1
  res := h.res.below' hb
  loc := h.loc.below' hb
  bel := h.bel.trans (hb.mono h.bel.size)
  lt := h.lt
theorem NO.set {w wr : World} {z : Int} {s : ByteArray} {b n : Nat} {M : Nat → Nat → Nat} (h : NO w wr z s b n M) {i k : Nat} (v : Nat) (hi : i < 6) (hk : k < 6) : NO w (wr.setCell ⟨b, 1 + i * 6 + k, none⟩ (.int .i64 (v : Int))) z s b n (upd M i k v) where
  a0 := by have := h.lt; rw [World.cell?_of_block (w := wr) (Below.heap_setCell wr ⟨b, 1 + i * 6 + k, none⟩ _ w.heap.size (by simp; omega))]; exact h.a0
  a1 := by have := h.lt; rw [World.cell?_of_block (w := wr) (Below.heap_setCell wr ⟨b, 1 + i * 6 + k, none⟩ _ w.heap.size (by simp; omega))]; exact h.a1
  res := h.res.far (p := ⟨b, 1 + i * 6 + k, none⟩) (by have := h.lt; simp; omega) _
  loc := h.loc.set v hi hk
  bel := h.bel.setCell (p := ⟨b, 1 + i * 6 + k, none⟩) (by have := h.lt; simp; omega) _
  lt := h.lt
theorem NO.congr {w wr : World} {z : Int} {s : ByteArray} {b n : Nat} {M N : Nat → Nat → Nat} (h : NO w wr z s b n M) (e : M = N) : NO w wr z s b n N := by rw [← e]; exact h
/-- behind the free network -/
theorem NO.start {w w1 : World} {z : Int} {s : ByteArray} {T : TypeId} (hb : Below (w.heap.size + 2) ((w.alloc (.cells #[.int .i64 z, .string s] T)).alloc (.cells (netV 0 fun _ _ => 0) 53)) w1) (n : Nat) (M : Nat → Nat → Nat) :
    NO w ((w1.alloc (.cells (netV 0 fun _ _ => 0) 53)).setRow w1.heap.size (netV n M)) z s w1.heap.size n M := by
  have hsz : w.heap.size + 2 ≤ w1.heap.size := by have := hb.size; simpa using this
  have hR : NB w1 (w.heap.size + 1) 0 fun _ _ => 0 := by
    have := (NB.made (w.alloc (.cells #[.int .i64 z, .string s] T)) 0 fun _ _ => 0).below hb (by simp)
    simpa using this
  have hc : ∀ i, w1.cell? ⟨w.heap.size, i, none⟩ = (#[Value.int .i64 z, .string s] : Array Value)[i]? := fun i => by
    rw [hb.cell (p := ⟨w.heap.size, i, none⟩) (by simp)]
    simp [go_sem]
  have hrow : ∀ i, ((w1.alloc (.cells (netV 0 fun _ _ => 0) 53)).setRow w1.heap.size (netV n M)).cell? ⟨w.heap.size, i, none⟩ = (#[Value.int .i64 z, .string s] : Array Value)[i]? := fun i => by
    rw [World.setRow_alloc_new, World.cell?_of_block (w := w1) (Below.heap_alloc w1 _ w.heap.size (by omega))]
    exact hc i
  exact {
    a0 := hrow 0
    a1 := hrow 1
    res := (hR.alloc _).rowFar (by omega) _
    loc := (NB.made w1 0 fun _ _ => 0).row n M
    bel := below_setRow ((((Below.refl w.heap.size w).alloc (Nat.le_refl _) _).alloc (by simp) _).trans (hb.mono (by omega)) |>.alloc (by omega) _) (by omega) _
    lt := by omega }
theorem NO.drew {w wr : World} {z : Int} {s : ByteArray} {b n : Nat} {M : Nat → Nat → Nat} (h : NO w wr z s b n M) : NO w wr.drew z s b n M := h.below (Below.refl wr.heap.size wr).drew
/-- What networkOf leaves at a size that networks can have. -/
def NRes (n : Nat) (s : ByteArray) (w : World) (e : Ending) (w' : World) : Prop :=
  (e = .returned (.tuple #[.agg (netV n (mx n s)), .bool true]) ∧ NV n s = true ∨ e = .returned (.tuple #[.agg (netV 0 fun _ _ => 0), .bool false]) ∧ NV n s = false) ∧ Below w.heap.size w w'
theorem NRes.yes {n : Nat} {s : ByteArray} {w w' : World} (h : NV n s = true) (hb : Below w.heap.size w w') : NRes n s w (.returned (.tuple #[.agg (netV n (mx n s)), .bool true])) w' := ⟨.inl ⟨rfl, h⟩, hb⟩
theorem NRes.no {n : Nat} {s : ByteArray} {w w' : World} (h : NV n s = false) (hb : Below w.heap.size w w') : NRes n s w (.returned (.tuple #[.agg (netV 0 fun _ _ => 0), .bool false])) w' := ⟨.inr ⟨rfl, h⟩, hb⟩
end Go.Proofs.YtlmmjdaipedjjaaDoor.C
