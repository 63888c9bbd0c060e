/- Walks over the orders of the ends of two intervals, as a slice. -/
import Derived.Test.YthldegohihkkiabDoorInts
import Derived.Test.YthldegohihkkiabDoorEnd
import Derived.Test.YthldegohihkkiabDoorTabS
namespace Go.Proofs.YthldegohihkkiabDoor.C
open Go.RowKit
set_option linter.unusedVariables false
set_option linter.unusedSimpArgs false
/-- A slice of the call's own. -/
def NewSl (w : World) (n : Nat) (f : Nat → Int) (v : Value) (w' : World) : Prop :=
  Below w.heap.size w w' ∧ ((n = 0 ∧ ∃ a c, v = .slice a 0 c) ∨ ∃ b cap, v = .slice (some ⟨b, 0, none⟩) n cap ∧ n ≤ cap ∧ w.heap.size ≤ b ∧ b < w'.heap.size ∧ (∀ i, i < n → w'.cell? ⟨b, i, none⟩ = some (.int .i64 (f i))) ∧ ∀ i, i < n → w'.frozen? ⟨b, i, none⟩ = false)
def NewS (w : World) (n : Nat) (f : Nat → Int) (e : Ending) (w' : World) : Prop := ∃ v, e = .returned v ∧ NewSl w n f v w'
def eoF (k : Nat) : Nat → Int
  | 0 => ord (zf k) 1
  | 1 => ord (zf k) 3
  | 2 => ord (zt k) 1
  | _ => ord (zt k) 3
theorem four {P : Nat → Prop} (h0 : P 0) (h1 : P 1) (h2 : P 2) (h3 : P 3) : ∀ i, i < 4 → P i := fun i hi => by
  obtain rfl | rfl | rfl | rfl : i = 0 ∨ i = 1 ∨ i = 2 ∨ i = 3 := by omega
  · exact h0
  · exact h1
  · exact h2
  · exact h3
theorem new_cellN (w : World) (n : Nat) (cs : Array Value) (t : TypeId) (i : Nat) : ((w.drewN n).alloc (.cells cs t)).cell? ⟨w.heap.size, i, none⟩ = cs[i]? := by
  have key : ∀ W : World, (W.alloc (.cells cs t)).cell? ⟨W.heap.size, i, none⟩ = cs[i]? := fun W => by simp [go_sem]
  exact key (w.drewN n)
theorem new_freeN (w : World) (n : Nat) (cs : Array Value) (t : TypeId) (i : Nat) : ((w.drewN n).alloc (.cells cs t)).frozen? ⟨w.heap.size, i, none⟩ = false := by
  have key : ∀ W : World, (W.alloc (.cells cs t)).frozen? ⟨W.heap.size, i, none⟩ = false := fun W => by simp [go_sem]
  exact key (w.drewN n)
set_option maxHeartbeats 2000000 in
theorem iEndsOf_hit (s : ByteArray) (k : Nat) (hk : k < 13) (hr : lix s = ((k : Int), true)) (w : World) (hT : TB w) :
    Calls Tryd.prog 57 #[.string s] w (NewS w 4 (eoF k)) := by
  have HT := hid hT
  clear hT
  have HR := hid hr
  clear hr
  have hmk : ∀ w : World, (Instr.makeSlice 52 (.int .i64 0) (.int .i64 4)).run Tryd.prog w = .ok (.slice (some ⟨w.heap.size, 0, none⟩) 0 4) (w.alloc (.cells #[.int .i64 0, .int .i64 0, .int .i64 0, .int .i64 0] 3)) := fun w => by kernel_rfl
  have HS := AllLt.start w; go_enter Tryd.func57, Tryd.ntmps57
  go_wp2_with fail
  (with_reducible refine (basicOfLetter_any s _ HT.out).mono ?_)
  rintro e w1 ⟨rfl, hb1⟩
  simp only [HR.out]
  go_wp2_with fail
  have HE := ends_any k hk _ ((HT.out.below hb1).below ((Below.refl _ _).alloc (Nat.le_refl _) (.cells #[.int .i64 0, .int .i64 0, .int .i64 0, .int .i64 0] 3)))
  have HX : Hid (eoF k 0 = ord (zf k) 1 ∧ eoF k 1 = ord (zf k) 3 ∧ eoF k 2 = ord (zt k) 1 ∧ eoF k 3 = ord (zt k) 3) := hid ⟨rfl, rfl, rfl, rfl⟩
  generalize ord (zf k) 1 = x0 at *
  generalize ord (zf k) 3 = x1 at *
  generalize ord (zt k) 1 = x2 at *
  generalize ord (zt k) 3 = x3 at *
  have HE2 := hid HE
  clear HE
  have i0 : ∀ w : World, (Instr.index 98 (.agg #[.int .i64 x0, .int .i64 x1, .int .i64 x2, .int .i64 x3]) (.int .i64 0)).run Tryd.prog w = .ok (.int .i64 x0) w := fun w => by kernel_rfl
  have i1 : ∀ w : World, (Instr.index 98 (.agg #[.int .i64 x0, .int .i64 x1, .int .i64 x2, .int .i64 x3]) (.int .i64 1)).run Tryd.prog w = .ok (.int .i64 x1) w := fun w => by kernel_rfl
  have i2 : ∀ w : World, (Instr.index 98 (.agg #[.int .i64 x0, .int .i64 x1, .int .i64 x2, .int .i64 x3]) (.int .i64 2)).run Tryd.prog w = .ok (.int .i64 x2) w := fun w => by kernel_rfl
  have i3 : ∀ w : World, (Instr.index 98 (.agg #[.int .i64 x0, .int .i64 x1, .int .i64 x2, .int .i64 x3]) (.int .i64 3)).run Tryd.prog w = .ok (.int .i64 x3) w := fun w => by kernel_rfl
  refine HE2.out.mono ?_
  rintro e w2 ⟨rfl, hb2⟩
  have hd0 : w2.cell? ⟨w1.heap.size, 0, none⟩ = some (.int .i64 0) := by rw [hb2.cell (p := ⟨w1.heap.size, 0, none⟩) (by simp)]; first | done | simp [go_sem]
  have hd1 : w2.cell? ⟨w1.heap.size, 1, none⟩ = some (.int .i64 0) := by rw [hb2.cell (p := ⟨w1.heap.size, 1, none⟩) (by simp)]; first | done | simp [go_sem]
  have hd2 : w2.cell? ⟨w1.heap.size, 2, none⟩ = some (.int .i64 0) := by rw [hb2.cell (p := ⟨w1.heap.size, 2, none⟩) (by simp)]; first | done | simp [go_sem]
  have hd3 : w2.cell? ⟨w1.heap.size, 3, none⟩ = some (.int .i64 0) := by rw [hb2.cell (p := ⟨w1.heap.size, 3, none⟩) (by simp)]; first | done | simp [go_sem]
  have hfz : ∀ i, w2.frozen? ⟨w1.heap.size, i, none⟩ = false := fun i => by rw [hb2.frozen (p := ⟨w1.heap.size, i, none⟩) (by simp)]; first | done | simp [go_sem]
  have hlt : w1.heap.size < w2.heap.size := by
    have := hb2.size
    simp only [World.size_alloc] at this
    omega
  have a0 : ¬ w1.heap.size = w2.heap.size := by omega
  have a1 : ¬ w1.heap.size = w2.heap.size + 1 := by omega
  have a2 : ¬ w1.heap.size = w2.heap.size + 1 + 1 := by omega
  have a3 : ¬ w1.heap.size = w2.heap.size + 1 + 1 + 1 := by omega
  have b0 : ¬ w2.heap.size = w1.heap.size := by omega
  have b1 : ¬ w2.heap.size + 1 = w1.heap.size := by omega
  have b2 : ¬ w2.heap.size + 1 + 1 = w1.heap.size := by omega
  have b3 : ¬ w2.heap.size + 1 + 1 + 1 = w1.heap.size := by omega
  have l2 : w1.heap.size < w2.heap.size + 1 := by omega
  have l3 : w1.heap.size < w2.heap.size + 1 + 1 := by omega
  have l4 : w1.heap.size < w2.heap.size + 1 + 1 + 1 := by omega
  have hw1 := hb1.size
  have HB0 := hb1.trans ((((Below.refl w1.heap.size w1).alloc (Nat.le_refl _) _).trans (hb2.mono (by simp))).mono hb1.size)
  have HB := hid HB0
  clear HB0
  clear hb1 hb2
  go_wp2
  refine wp_loop_rounds 5 ?_
  iterate 5
    rw [rounds_succ]
    go_wp2
  go_ret
  have HBB := HB.out
  refine ⟨_, rfl, by (repeat' (first | (with_reducible exact Below.refl _ _) | (with_reducible refine Below.setCell ?_ ?_ _) | (with_reducible refine below_drewN' ?_ _) | (with_reducible refine below_drew' ?_) | (with_reducible refine Below.alloc ?_ ?_ _) | (with_reducible assumption) | go_size)), .inr ⟨w1.heap.size, 4, rfl, by omega, hw1, ?_, four ?_ ?_ ?_ ?_, four ?_ ?_ ?_ ?_⟩⟩
  · simp; omega
  · simp only [HX.out.1]
    refine (Below.cell (p := ⟨w1.heap.size, 0, none⟩) (((((Below.refl _ _).alloc (Nat.le_refl _) _).alloc (by simp) _).alloc (by simp; omega) _).alloc (by simp; omega) _) (by simp; omega)).trans ?_
    simp [go_sem, hd0, hd1, hd2, hd3]
  · simp only [HX.out.2.1]
    refine (Below.cell (p := ⟨w1.heap.size, 1, none⟩) (((((Below.refl _ _).alloc (Nat.le_refl _) _).alloc (by simp) _).alloc (by simp; omega) _).alloc (by simp; omega) _) (by simp; omega)).trans ?_
    simp [go_sem, hd0, hd1, hd2, hd3]
  · simp only [HX.out.2.2.1]
    refine (Below.cell (p := ⟨w1.heap.size, 2, none⟩) (((((Below.refl _ _).alloc (Nat.le_refl _) _).alloc (by simp) _).alloc (by simp; omega) _).alloc (by simp; omega) _) (by simp; omega)).trans ?_
    simp [go_sem, hd0, hd1, hd2, hd3]
  · simp only [HX.out.2.2.2]
    refine (Below.cell (p := ⟨w1.heap.size, 3, none⟩) (((((Below.refl _ _).alloc (Nat.le_refl _) _).alloc (by simp) _).alloc (by simp; omega) _).alloc (by simp; omega) _) (by simp; omega)).trans ?_
    simp [go_sem, hd0, hd1, hd2, hd3]
  · refine (Below.frozen (p := ⟨w1.heap.size, 0, none⟩) (((((Below.refl _ _).alloc (Nat.le_refl _) _).alloc (by simp) _).alloc (by simp; omega) _).alloc (by simp; omega) _) (by simp; omega)).trans ?_
    simp [go_sem, hfz]
  · refine (Below.frozen (p := ⟨w1.heap.size, 1, none⟩) (((((Below.refl _ _).alloc (Nat.le_refl _) _).alloc (by simp) _).alloc (by simp; omega) _).alloc (by simp; omega) _) (by simp; omega)).trans ?_
    simp [go_sem, hfz]
  · refine (Below.frozen (p := ⟨w1.heap.size, 2, none⟩) (((((Below.refl _ _).alloc (Nat.le_refl _) _).alloc (by simp) _).alloc (by simp; omega) _).alloc (by simp; omega) _) (by simp; omega)).trans ?_
    simp [go_sem, hfz]
  · refine (Below.frozen (p := ⟨w1.heap.size, 3, none⟩) (((((Below.refl _ _).alloc (Nat.le_refl _) _).alloc (by simp) _).alloc (by simp; omega) _).alloc (by simp; omega) _) (by simp; omega)).trans ?_
    simp [go_sem, hfz]
theorem iEndsOf_miss (s : ByteArray) (hr : lix s = (0, false)) (w : World) (hT : TB w) :
    Calls Tryd.prog 57 #[.string s] w (NewS w 0 (eoF 0)) := by
  have HT := hid hT
  clear hT
  have HR := hid hr
  clear hr
  have HS := AllLt.start w; go_enter Tryd.func57, Tryd.ntmps57
  go_wp2_with fail
  (with_reducible refine (basicOfLetter_any s _ HT.out).mono ?_)
  rintro e w1 ⟨rfl, hb1⟩
  simp only [HR.out]
  go_wp2
  go_ret
  exact ⟨_, rfl, hb1, .inl ⟨rfl, _, _, rfl⟩⟩
end Go.Proofs.YthldegohihkkiabDoor.C
