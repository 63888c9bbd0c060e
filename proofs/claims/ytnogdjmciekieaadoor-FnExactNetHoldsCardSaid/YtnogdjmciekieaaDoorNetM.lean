/- The program's networks, changed: what is put, and the mirror. -/
import Derived.Test.YtnogdjmciekieaaDoorNetC
import Derived.Test.YtnogdjmciekieaaDoorNetN
import Derived.Test.YtnogdjmciekieaaDoorDraw
namespace Go.Proofs.YtnogdjmciekieaaDoor.C
open Go.RowKit
set_option linter.unusedVariables false
set_option linter.unusedSimpArgs false
theorem NB.wr {q : Nat} {w w' : World} {g n : Nat} {M : Nat → Nat → Nat} (h : NB w g n M) (hw : Wr q w w') (hg : g ≠ q) : NB w' g n M := (hw.block g h.lt hg).trans h
set_option maxHeartbeats 4000000 in
set_option maxRecDepth 100000 in
theorem put_any (g n : Nat) (R : Nat → Nat → Nat) (i r k : Nat) (hi : i < 6) (hk : k < 6) (hr : r < 8192) (w : World) (hT : TB w) (hN : NB w g n R) :
    Calls Tryd.prog 64 #[.pointer (some ⟨g, 0, none⟩), .agg #[.int .i64 i, .int .i64 r, .int .i64 k]] w fun e w' => e = .returned (.tuple #[]) ∧ (NB w' g n (putR R i k r) ∧ Wr g w w') := by
  have HT := hid (hT.below ((Below.refl w.heap.size w).alloc (Nat.le_refl _) (.cells #[.int .i64 i, .int .i64 r, .int .i64 k] 72)))
  have HN := hid hN
  have hgA : ¬ g = w.heap.size := by have := hN.lt; omega
  clear hT hN
  have HS := AllLt.start w; go_enter Tryd.func64, Tryd.ntmps64
  go_wp2_with fail
  (with_reducible refine (eturn_any i r k hr _ HT.out).mono ?_)
  rintro e w2 ⟨rfl, hb⟩
  have hz := hb.size
  rw [World.size_alloc] at hz
  have HW2 := hid (Wr.of_below (q := g) (((Below.refl w.heap.size w).alloc (Nat.le_refl _) (.cells #[.int .i64 i, .int .i64 r, .int .i64 k] 72)).trans (hb.mono (by simp))))
  obtain ⟨m0, m1, m2⟩ := new_cell3 w (.int .i64 i) (.int .i64 r) (.int .i64 k) 72
  have q0 := hid ((hb.cell (p := ⟨w.heap.size, 0, none⟩) (by simp)).trans m0)
  have q1 := hid ((hb.cell (p := ⟨w.heap.size, 1, none⟩) (by simp)).trans m1)
  have q2 := hid ((hb.cell (p := ⟨w.heap.size, 2, none⟩) (by simp)).trans m2)
  have HN2 := hid ((HN.out.alloc (.cells #[.int .i64 i, .int .i64 r, .int .i64 k] 72)).below hb (by rw [World.size_alloc]; have := HN.out.lt; omega))
  clear hb m0 m1 m2
  go_upto_region 2 with fail
  obtain ⟨t0, t1, t2⟩ := new_cell3 w2 (.int .i64 k) (.int .i64 ((turN r : Nat) : Int)) (.int .i64 i) 72
  have HN3 := hid (HN2.out.alloc (.cells #[.int .i64 k, .int .i64 ((turN r : Nat) : Int), .int .i64 i] 72))
  have HBa := hid ((Below.refl w2.heap.size w2).alloc (Nat.le_refl _) (.cells #[.int .i64 k, .int .i64 ((turN r : Nat) : Int), .int .i64 i] 72))
  have HW3 := hid (HW2.out.trans (Wr.of_below HBa.out))
  have p0 := (HBa.out.cell (p := ⟨w.heap.size, 0, none⟩) (show w.heap.size < w2.heap.size by omega)).trans q0.out
  have p1 := (HBa.out.cell (p := ⟨w.heap.size, 1, none⟩) (show w.heap.size < w2.heap.size by omega)).trans q1.out
  have p2 := (HBa.out.cell (p := ⟨w.heap.size, 2, none⟩) (show w.heap.size < w2.heap.size by omega)).trans q2.out
  have hgT : ¬ g = w2.heap.size := by have := HN2.out.lt; omega
  generalize hTT : w2.heap.size = T at *
  clear HBa
  generalize w2.alloc (.cells #[.int .i64 k, .int .i64 ((turN r : Nat) : Int), .int .i64 i] 72) = w3 at *
  have hc := HN3.out.cell hi hk
  have hf := HN3.out.frozen (1 + i * 6 + k)
  have i0 : (0 : Int) ≤ (i : Int) := by omega
  have i6 : (i : Int) < 6 := by omega
  have k0 : (0 : Int) ≤ (k : Int) := by omega
  have k6 : (k : Int) < 6 := by omega
  have HS4 := hid (show (w3.setCell ⟨g, 1 + i * 6 + k, none⟩ (.int .i64 (r : Int))).drew.cell? ⟨T, 0, none⟩ = some (.int .i64 k) ∧ (w3.setCell ⟨g, 1 + i * 6 + k, none⟩ (.int .i64 (r : Int))).drew.cell? ⟨T, 1, none⟩ = some (.int .i64 ((turN r : Nat) : Int)) ∧ (w3.setCell ⟨g, 1 + i * 6 + k, none⟩ (.int .i64 (r : Int))).drew.cell? ⟨T, 2, none⟩ = some (.int .i64 i) by
    have hh := heap_setCell_other w3 ⟨g, 1 + i * 6 + k, none⟩ T (.int .i64 (r : Int)) (fun e => hgT e.symm)
    have hh : (w3.setCell ⟨g, 1 + i * 6 + k, none⟩ (.int .i64 (r : Int))).drew.heap[T]? = w3.heap[T]? := hh
    exact ⟨(World.cell?_of_block (a := ⟨T, 0, none⟩) hh).trans t0, (World.cell?_of_block (a := ⟨T, 1, none⟩) hh).trans t1, (World.cell?_of_block (a := ⟨T, 2, none⟩) hh).trans t2⟩)
  have HN4 := hid (show NB (w3.setCell ⟨g, 1 + i * 6 + k, none⟩ (.int .i64 (r : Int))).drew g n (upd R i k r) from HN3.out.set r hi hk)
  have HW4 := hid (show Wr g w (w3.setCell ⟨g, 1 + i * 6 + k, none⟩ (.int .i64 (r : Int))).drew from (HW3.out.trans (Wr.setCell w3 g (1 + i * 6 + k) (.int .i64 (r : Int)))).drewN 1)
  clear t0 t1 t2
  go_region
  all_goals
    go_wp2
    clear hc hf p0 p1 p2
    generalize (w3.setCell ⟨g, 1 + i * 6 + k, none⟩ (.int .i64 (r : Int))).drew = w4 at *
    have t0 := HS4.out.1
    have t1 := HS4.out.2.1
    have t2 := HS4.out.2.2
    have hc := HN4.out.cell hk hi
    have hf := HN4.out.frozen (1 + k * 6 + i)
    have HN5 := hid (show NB (w4.setCell ⟨g, 1 + k * 6 + i, none⟩ (.int .i64 ((turN r : Nat) : Int))).drew g n (putR R i k r) from HN4.out.set (turN r) hk hi)
    have HW5 := hid (show Wr g w (w4.setCell ⟨g, 1 + k * 6 + i, none⟩ (.int .i64 ((turN r : Nat) : Int))).drew from (HW4.out.trans (Wr.setCell w4 g (1 + k * 6 + i) (.int .i64 ((turN r : Nat) : Int)))).drewN 1)
    go_region
    all_goals
      go_wp2
      go_end0
      exact ⟨rfl, HN5.out, HW5.out⟩
end Go.Proofs.YtnogdjmciekieaaDoor.C
