/- Walks over the orders of the ends of two intervals, as a slice. The exact law of the orders of the ends. -/
import Derived.Test.YtmdgkhebefnfeabInts
import Derived.Test.YtmdgkhebefnfeabTurn
import Derived.Test.YtmdgkhebefnfeabTab
namespace Go.Proofs.Ytmdgkhebefnfeab.C
section
open Go.RowKit
set_option linter.unusedVariables false
set_option linter.unusedSimpArgs false
/-- A slice of the call's own. -/
def NewSl (w : World) (n : Nat) (f : Nat → Int) (v : Value) (w' : World) : Prop :=
  Below w.heap.size w w' ∧ ((n = 0 ∧ ∃ a c, v = .slice a 0 c) ∨ ∃ b cap, v = .slice (some ⟨b, 0, none⟩) n cap ∧ n ≤ cap ∧ w.heap.size ≤ b ∧ b < w'.heap.size ∧ (∀ i, i < n → w'.cell? ⟨b, i, none⟩ = some (.int .i64 (f i))) ∧ ∀ i, i < n → w'.frozen? ⟨b, i, none⟩ = false)
def NewS (w : World) (n : Nat) (f : Nat → Int) (e : Ending) (w' : World) : Prop := ∃ v, e = .returned v ∧ NewSl w n f v w'
def eoF (k : Nat) : Nat → Int
  | 0 => ord (zf k) 1
  | 1 => ord (zf k) 3
  | 2 => ord (zt k) 1
  | _ => ord (zt k) 3
theorem four {P : Nat → Prop} (h0 : P 0) (h1 : P 1) (h2 : P 2) (h3 : P 3) : ∀ i, i < 4 → P i := fun i hi => by
  obtain rfl | rfl | rfl | rfl : i = 0 ∨ i = 1 ∨ i = 2 ∨ i = 3 := by omega
  · exact h0
  · exact h1
  · exact h2
  · exact h3
theorem new_cellN (w : World) (n : Nat) (cs : Array Value) (t : TypeId) (i : Nat) : ((w.drewN n).alloc (.cells cs t)).cell? ⟨w.heap.size, i, none⟩ = cs[i]? := by
  have key : ∀ W : World, (W.alloc (.cells cs t)).cell? ⟨W.heap.size, i, none⟩ = cs[i]? := fun W => by simp [go_sem]
  exact key (w.drewN n)
theorem new_freeN (w : World) (n : Nat) (cs : Array Value) (t : TypeId) (i : Nat) : ((w.drewN n).alloc (.cells cs t)).frozen? ⟨w.heap.size, i, none⟩ = false := by
  have key : ∀ W : World, (W.alloc (.cells cs t)).frozen? ⟨W.heap.size, i, none⟩ = false := fun W => by simp [go_sem]
  exact key (w.drewN n)
end
section
open Go.RowKit
set_option linter.unusedVariables false
set_option linter.unusedSimpArgs false
/-- A slice in a row at block b, if it has elements. -/
def RowAt (w : World) (b cap n : Nat) (f : Nat → Int) : Prop := n ≤ cap ∧ b < w.heap.size ∧ ∀ i, i < n → w.cell? ⟨b, i, none⟩ = some (.int .i64 (f i))
theorem RowAt.sl {w : World} {b cap n : Nat} {f : Nat → Int} (h : RowAt w b cap n f) : Sl w (.slice (some ⟨b, 0, none⟩) n cap) n f := .inr ⟨b, cap, rfl, h.1, h.2.2⟩
theorem RowAt.below {w w' : World} {b cap n : Nat} {f : Nat → Int} (h : RowAt w b cap n f) (hb : Below w.heap.size w w') : RowAt w' b cap n f :=
  ⟨h.1, Nat.lt_of_lt_of_le h.2.1 hb.size, fun i hi => by rw [hb.cell (p := ⟨b, i, none⟩) h.2.1]; exact h.2.2 i hi⟩
theorem RowAt.wr {w w' : World} {b cap n q : Nat} {f : Nat → Int} (h : RowAt w b cap n f) (hW : Wr q w w') (hq : b ≠ q) : RowAt w' b cap n f :=
  ⟨h.1, Nat.lt_of_lt_of_le h.2.1 hW.size, fun i hi => by rw [hW.cell h.2.1 hq]; exact h.2.2 i hi⟩
theorem RowAt.drewN {w : World} {b cap n : Nat} {f : Nat → Int} (h : RowAt w b cap n f) (m : Nat) : RowAt (w.drewN m) b cap n f := h
/-- What an exact law asks of a slice that is new: as a row, or empty. -/
theorem NewSl.cases {w : World} {n : Nat} {f : Nat → Int} {v : Value} {w' : World} (h : NewSl w n f v w') :
    Below w.heap.size w w' ∧ ((n = 0 ∧ ∃ a c, v = .slice a 0 c) ∨ (0 < n ∧ ∃ b cap, v = .slice (some ⟨b, 0, none⟩) n cap ∧ w.heap.size ≤ b ∧ RowAt w' b cap n f ∧ ∀ i, i < n → w'.frozen? ⟨b, i, none⟩ = false)) := by
  obtain ⟨h1, h2⟩ := h
  refine ⟨h1, ?_⟩
  rcases h2 with h2 | ⟨b, cap, rfl, h3, h4, h5, h6, h7⟩
  · exact .inl h2
  · by_cases hn : n = 0
    · subst hn; exact .inl ⟨rfl, _, _, rfl⟩
    · exact .inr ⟨by omega, b, cap, rfl, h4, ⟨h3, h5, h6⟩, h7⟩
theorem szD {B : Nat} {w : World} (h : B ≤ w.heap.size) (m : Nat) : B ≤ (w.drewN m).heap.size := h
/-- A slice that an answer owns: empty, or a row from block B on. -/
def NewV (B : Nat) (w : World) (v : Value) (n : Nat) (f : Nat → Int) : Prop :=
  (n = 0 ∧ ∃ a c, v = .slice a 0 c) ∨ (0 < n ∧ ∃ b cap, v = .slice (some ⟨b, 0, none⟩) n cap ∧ B ≤ b ∧ RowAt w b cap n f ∧ ∀ i, i < n → w.frozen? ⟨b, i, none⟩ = false)
theorem NewSl.v {w w' : World} {n : Nat} {f : Nat → Int} {v : Value} (h : NewSl w n f v w') : NewV w.heap.size w' v n f := h.cases.2
theorem NewV.sl {B : Nat} {w : World} {v : Value} {n : Nat} {f : Nat → Int} (h : NewV B w v n f) : Sl w v n f := by
  rcases h with h | ⟨_, b, cap, rfl, _, h, _⟩
  · exact .inl h
  · exact h.sl
theorem NewV.wr {B q : Nat} {w w' : World} {v : Value} {n : Nat} {f : Nat → Int} (h : NewV B w v n f) (hW : Wr q w w') (hq : q < B) : NewV B w' v n f := by
  rcases h with h | ⟨hn, b, cap, rfl, hB, h, hf⟩
  · exact .inl h
  · exact .inr ⟨hn, b, cap, rfl, hB, h.wr hW (by omega), fun i hi => by rw [hW.frozen h.2.1 (by omega)]; exact hf i hi⟩
theorem NewV.below {B : Nat} {w w' : World} {v : Value} {n : Nat} {f : Nat → Int} (h : NewV B w v n f) (hb : Below w.heap.size w w') : NewV B w' v n f := by
  rcases h with h | ⟨hn, b, cap, rfl, hB, h, hf⟩
  · exact .inl h
  · exact .inr ⟨hn, b, cap, rfl, hB, h.below hb, fun i hi => by rw [hb.frozen (p := ⟨b, i, none⟩) h.2.1]; exact hf i hi⟩
theorem NewV.lower {B C : Nat} {w : World} {v : Value} {n : Nat} {f : Nat → Int} (h : NewV B w v n f) (hC : C ≤ B) : NewV C w v n f := by
  rcases h with h | ⟨hn, b, cap, rfl, hB, h⟩
  · exact .inl h
  · exact .inr ⟨hn, b, cap, rfl, Nat.le_trans hC hB, h⟩
theorem NewV.drewN {B : Nat} {w : World} {v : Value} {n : Nat} {f : Nat → Int} (h : NewV B w v n f) (m : Nat) : NewV B (w.drewN m) v n f := h
/-- A slice that lies below block C. -/
def UpV (C : Nat) (w : World) (v : Value) (n : Nat) (f : Nat → Int) : Prop := (n = 0 ∧ ∃ a c, v = .slice a 0 c) ∨ ∃ b cap, v = .slice (some ⟨b, 0, none⟩) n cap ∧ b < C ∧ RowAt w b cap n f
theorem NewV.up {B : Nat} {w : World} {v : Value} {n : Nat} {f : Nat → Int} (h : NewV B w v n f) : UpV w.heap.size w v n f := by
  rcases h with h | ⟨_, b, cap, rfl, _, h, _⟩
  · exact .inl h
  · exact .inr ⟨b, cap, rfl, h.2.1, h⟩
theorem UpV.sl {C : Nat} {w : World} {v : Value} {n : Nat} {f : Nat → Int} (h : UpV C w v n f) : Sl w v n f := by
  rcases h with h | ⟨b, cap, rfl, _, h⟩
  · exact .inl h
  · exact h.sl
theorem UpV.below {C : Nat} {w w' : World} {v : Value} {n : Nat} {f : Nat → Int} (h : UpV C w v n f) (hb : Below C w w') : UpV C w' v n f := by
  rcases h with h | ⟨b, cap, rfl, hC, h⟩
  · exact .inl h
  · exact .inr ⟨b, cap, rfl, hC, h.1, Nat.lt_of_lt_of_le h.2.1 hb.size, fun i hi => by rw [hb.cell (p := ⟨b, i, none⟩) hC]; exact h.2.2 i hi⟩
theorem UpV.drewN {C : Nat} {w : World} {v : Value} {n : Nat} {f : Nat → Int} (h : UpV C w v n f) (m : Nat) : UpV C (w.drewN m) v n f := h
/-- .. marked from k on -/
def Ms (w : World) (v : Value) (k n : Nat) : Prop := (n = 0 ∧ ∃ a c, v = .slice a 0 c) ∨ ∃ b cap, v = .slice (some ⟨b, 0, none⟩) n cap ∧ RowAt w b cap n (fun i => ((k + i : Nat) : Int))
theorem Ms.below {w w' : World} {v : Value} {k n : Nat} (h : Ms w v k n) (hb : Below w.heap.size w w') : Ms w' v k n := by
  rcases h with h | ⟨b, cap, rfl, h⟩
  · exact .inl h
  · exact .inr ⟨b, cap, rfl, h.below hb⟩
theorem Ms.drewN {w : World} {v : Value} {k n : Nat} (h : Ms w v k n) (m : Nat) : Ms (w.drewN m) v k n := h
theorem markV_any {B : Nat} {w : World} {v : Value} {n : Nat} {f : Nat → Int} (k : Nat) (hn : n + k ≤ 4611686018427387904) (hB : B ≤ w.heap.size) (h : NewV B w v n f) :
    Calls Try.prog 23 #[v, .int .i64 (k : Int)] w fun e w' => e = .returned (.int .i64 ((k + n : Nat) : Int)) ∧ Ms w' v k n ∧ Below B w w' := by
  rcases h with ⟨rfl, a, c, rfl⟩ | ⟨hp, b, cap, rfl, hb, hr, hf⟩
  · refine (markIntS_zero _ _ _ _).mono ?_
    rintro e w' ⟨rfl, rfl⟩
    exact ⟨rfl, .inl ⟨rfl, _, _, rfl⟩, Below.refl _ _⟩
  · refine (markIntS_row b cap n k w hn hr.1 (fun i hi => ⟨_, hr.2.2 i hi⟩) hf).mono ?_
    rintro e w' ⟨rfl, hM⟩
    exact ⟨rfl, .inr ⟨b, cap, rfl, hr.1, Nat.lt_of_lt_of_le hr.2.1 hM.wr.size, hM.done⟩, hM.wr.below hb hB⟩
theorem heldV_any {w : World} {v : Value} {n : Nat} (k : Nat) (hn : n + k ≤ 4611686018427387904) (h : Ms w v k n) :
    Calls Try.prog 24 #[v, .int .i64 (k : Int)] w fun e w' => e = .returned (.int .i64 ((k + n : Nat) : Int)) ∧ w = w' := by
  rcases h with ⟨rfl, a, c, rfl⟩ | ⟨b, cap, rfl, hr⟩
  · exact heldIntS_zero _ _ _ _
  · exact heldIntS_row b cap n k w hn hr.1 hr.2.2
end
end Go.Proofs.Ytmdgkhebefnfeab.C
