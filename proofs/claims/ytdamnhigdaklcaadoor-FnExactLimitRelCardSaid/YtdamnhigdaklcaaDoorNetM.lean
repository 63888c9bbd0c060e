/- The program's networks, changed: what is put, and the mirror. -/
import Derived.Test.YtdamnhigdaklcaaDoorNetC
import Derived.Test.YtdamnhigdaklcaaDoorNetN
import Derived.Test.YtdamnhigdaklcaaDoorDraw
namespace Go.Proofs.YtdamnhigdaklcaaDoor.C
open Go.RowKit
set_option linter.unusedVariables false
set_option linter.unusedSimpArgs false
theorem NB.wr {q : Nat} {w w' : World} {g n : Nat} {M : Nat → Nat → Nat} (h : NB w g n M) (hw : Wr q w w') (hg : g ≠ q) : NB w' g n M := (hw.block g h.lt hg).trans h
set_option maxHeartbeats 4000000 in
set_option maxRecDepth 100000 in
theorem put_any (g n : Nat) (R : Nat → Nat → Nat) (i r k : Nat) (hi : i < 6) (hk : k < 6) (hr : r < 8192) (w : World) (hT : TB w) (hN : NB w g n R) :
    Calls Tryd.prog 88 #[.pointer (some ⟨g, 0, none⟩), .agg #[.int .i64 i, .int .i64 r, .int .i64 k]] w fun e w' => e = .returned (.tuple #[]) ∧ (NB w' g n (putR R i k r) ∧ Wr g w w') := by
  have HT := hid (hT.below ((Below.refl w.heap.size w).alloc (Nat.le_refl _) (.cells #[.int .i64 i, .int .i64 r, .int .i64 k] 69)))
  have HN := hid hN
  have hgA : ¬ g = w.heap.size := by have := hN.lt; omega
  clear hT hN
  have HS := AllLt.start w; go_enter Tryd.func88, Tryd.ntmps88
  go_wp2_with fail
  (with_reducible refine (eturn_any i r k hr _ HT.out).mono ?_)
  rintro e w2 ⟨rfl, hb⟩
  have hz := hb.size
  rw [World.size_alloc] at hz
  have HW2 := hid (Wr.of_below (q := g) (((Below.refl w.heap.size w).alloc (Nat.le_refl _) (.cells #[.int .i64 i, .int .i64 r, .int .i64 k] 69)).trans (hb.mono (by simp))))
  obtain ⟨m0, m1, m2⟩ := new_cell3 w (.int .i64 i) (.int .i64 r) (.int .i64 k) 69
  have q0 := hid ((hb.cell (p := ⟨w.heap.size, 0, none⟩) (by simp)).trans m0)
  have q1 := hid ((hb.cell (p := ⟨w.heap.size, 1, none⟩) (by simp)).trans m1)
  have q2 := hid ((hb.cell (p := ⟨w.heap.size, 2, none⟩) (by simp)).trans m2)
  have HN2 := hid ((HN.out.alloc (.cells #[.int .i64 i, .int .i64 r, .int .i64 k] 69)).below hb (by rw [World.size_alloc]; have := HN.out.lt; omega))
  clear hb m0 m1 m2
  go_upto_region 2 with fail
  obtain ⟨t0, t1, t2⟩ := new_cell3 w2 (.int .i64 k) (.int .i64 ((turN r : Nat) : Int)) (.int .i64 i) 69
  have HN3 := hid (HN2.out.alloc (.cells #[.int .i64 k, .int .i64 ((turN r : Nat) : Int), .int .i64 i] 69))
  have HBa := hid ((Below.refl w2.heap.size w2).alloc (Nat.le_refl _) (.cells #[.int .i64 k, .int .i64 ((turN r : Nat) : Int), .int .i64 i] 69))
  have HW3 := hid (HW2.out.trans (Wr.of_below HBa.out))
  have p0 := (HBa.out.cell (p := ⟨w.heap.size, 0, none⟩) (show w.heap.size < w2.heap.size by omega)).trans q0.out
  have p1 := (HBa.out.cell (p := ⟨w.heap.size, 1, none⟩) (show w.heap.size < w2.heap.size by omega)).trans q1.out
  have p2 := (HBa.out.cell (p := ⟨w.heap.size, 2, none⟩) (show w.heap.size < w2.heap.size by omega)).trans q2.out
  have hgT : ¬ g = w2.heap.size := by have := HN2.out.lt; omega
  generalize hTT : w2.heap.size = T at *
  clear HBa
  generalize w2.alloc (.cells #[.int .i64 k, .int .i64 ((turN r : Nat) : Int), .int .i64 i] 69) = w3 at *
  have hc := HN3.out.cell hi hk
  have hf := HN3.out.frozen (1 + i * 6 + k)
  have i0 : (0 : Int) ≤ (i : Int) := by omega
  have i6 : (i : Int) < 6 := by omega
  have k0 : (0 : Int) ≤ (k : Int) := by omega
  have k6 : (k : Int) < 6 := by omega
  have HS4 := hid (show (w3.setCell ⟨g, 1 + i * 6 + k, none⟩ (.int .i64 (r : Int))).drew.cell? ⟨T, 0, none⟩ = some (.int .i64 k) ∧ (w3.setCell ⟨g, 1 + i * 6 + k, none⟩ (.int .i64 (r : Int))).drew.cell? ⟨T, 1, none⟩ = some (.int .i64 ((turN r : Nat) : Int)) ∧ (w3.setCell ⟨g, 1 + i * 6 + k, none⟩ (.int .i64 (r : Int))).drew.cell? ⟨T, 2, none⟩ = some (.int .i64 i) by
    have hh := heap_setCell_other w3 ⟨g, 1 + i * 6 + k, none⟩ T (.int .i64 (r : Int)) (fun e => hgT e.symm)
    have hh : (w3.setCell ⟨g, 1 + i * 6 + k, none⟩ (.int .i64 (r : Int))).drew.heap[T]? = w3.heap[T]? := hh
    exact ⟨(World.cell?_of_block (a := ⟨T, 0, none⟩) hh).trans t0, (World.cell?_of_block (a := ⟨T, 1, none⟩) hh).trans t1, (World.cell?_of_block (a := ⟨T, 2, none⟩) hh).trans t2⟩)
  have HN4 := hid (show NB (w3.setCell ⟨g, 1 + i * 6 + k, none⟩ (.int .i64 (r : Int))).drew g n (upd R i k r) from HN3.out.set r hi hk)
  have HW4 := hid (show Wr g w (w3.setCell ⟨g, 1 + i * 6 + k, none⟩ (.int .i64 (r : Int))).drew from (HW3.out.trans (Wr.setCell w3 g (1 + i * 6 + k) (.int .i64 (r : Int)))).drewN 1)
  clear t0 t1 t2
  go_region
  all_goals
    go_wp2
    clear hc hf p0 p1 p2
    generalize (w3.setCell ⟨g, 1 + i * 6 + k, none⟩ (.int .i64 (r : Int))).drew = w4 at *
    have t0 := HS4.out.1
    have t1 := HS4.out.2.1
    have t2 := HS4.out.2.2
    have hc := HN4.out.cell hk hi
    have hf := HN4.out.frozen (1 + k * 6 + i)
    have HN5 := hid (show NB (w4.setCell ⟨g, 1 + k * 6 + i, none⟩ (.int .i64 ((turN r : Nat) : Int))).drew g n (putR R i k r) from HN4.out.set (turN r) hk hi)
    have HW5 := hid (show Wr g w (w4.setCell ⟨g, 1 + k * 6 + i, none⟩ (.int .i64 ((turN r : Nat) : Int))).drew from (HW4.out.trans (Wr.setCell w4 g (1 + k * 6 + i) (.int .i64 ((turN r : Nat) : Int)))).drewN 1)
    go_region
    all_goals
      go_wp2
      go_end0
      exact ⟨rfl, HN5.out, HW5.out⟩
theorem rmirrored_any (n : Nat) (hn : n < 8192) (w : World) (hT : TB w) :
    Calls Tryd.prog 70 #[.int .i64 n] w fun e w' => e = .returned (.int .i64 ((mirN n : Nat) : Int)) ∧ Below w.heap.size w w' := by
  have HT := hid hT
  clear hT
  have HS := AllLt.start w; go_enter Tryd.func70, Tryd.ntmps70
  go_wp2_with fail
  (with_reducible refine (changed_mirrored n hn _ HT.out).mono ?_)
  rintro e w' ⟨rfl, hb⟩
  go_wp2
  go_ret
  exact ⟨rfl, hb⟩
theorem closM_any (i r k : Nat) (hr : r < 8192) (w : World) (hT : TB w) :
    Calls Tryd.prog 69 #[.agg #[.int .i64 i, .int .i64 r, .int .i64 k]] w fun e w' => e = .returned (.int .i64 ((mirN r : Nat) : Int)) ∧ Below w.heap.size w w' := by
  have HT := hid (hT.below ((Below.refl w.heap.size w).alloc (Nat.le_refl _) (.cells #[.int .i64 i, .int .i64 r, .int .i64 k] 69)))
  clear hT
  have HS := AllLt.start w; go_enter Tryd.func69, Tryd.ntmps69
  go_wp2_with fail
  (with_reducible refine (rmirrored_any r hr _ HT.out).mono ?_)
  rintro e w' ⟨rfl, hb⟩
  go_wp2
  go_ret
  exact ⟨rfl, ((Below.refl _ _).alloc (Nat.le_refl _) _).trans (hb.mono (by simp))⟩
set_option maxHeartbeats 4000000 in
set_option maxRecDepth 100000 in
theorem changedM_any (n : Nat) (R : Nat → Nat → Nat) (hR : OkR n R) (w : World) (hT : TB w) :
    Calls Tryd.prog 61 #[.agg (netV n R), .func (.func 69) #[] #[]] w fun e w' => e = .returned (.agg (netV n (mirR R))) ∧ Below w.heap.size w w' := by
  have HT := hid hT
  have h6 := hR.le
  have HOK := hid hR
  clear hT hR
  have HA := hid (NB.made w n R)
  have HM := hid (NB.made (w.alloc (.cells (netV n R) 64)) 0 fun _ _ => 0)
  have HS := AllLt.start w; go_enter Tryd.func61, Tryd.ntmps61
  go_upto_region 1 with (refine al_net rfl rfl ?_)
  have HA2 := hid (HA.out.alloc (.cells (netV 0 fun _ _ => 0) 64))
  have HB2 := hid ((((Below.refl w.heap.size w).alloc (Nat.le_refl _) (.cells (netV n R) 64)).alloc (by simp) (.cells (netV 0 fun _ _ => 0) 64)))
  have hz2 : ((w.alloc (.cells (netV n R) 64)).alloc (.cells (netV 0 fun _ _ => 0) 64)).heap.size = w.heap.size + 1 + 1 := by rw [World.size_alloc, World.size_alloc]
  rw [World.size_alloc] at HM
  clear HA
  generalize (w.alloc (.cells (netV n R) 64)).alloc (.cells (netV 0 fun _ _ => 0) 64) = w2 at *
  go_wp2_with (refine ld_net rfl _ rfl rfl HA2.out ?_)
  (with_reducible refine (edges_any n h6 R _).mono ?_)
  rintro e w3 ⟨⟨v, rfl, hown⟩, hb⟩
  obtain ⟨a, cap, rfl, hE⟩ := Es.of_own hown
  have HG := hid (show ∀ j, j < (edL n).length → ∃ g, a = some ⟨g, 0, none⟩ ∧ w.heap.size + 1 + 1 < g from fun j hj => by
    rcases hown.2 with ⟨hv, h0⟩ | ⟨g, cap', cur, hv, hB, _⟩
    · omega
    · cases hv; exact ⟨g, rfl, by omega⟩)
  have HE := hid hE
  have HA3 := hid (HA2.out.below' hb)
  have HM3 := hid (HM.out.below hb (by omega))
  have HB3 := hid (HB2.out.trans (hb.mono HB2.out.size))
  have hz3 : Hid (w.heap.size + 1 + 1 ≤ w3.heap.size) := hid (by have := hb.size; omega)
  have hl15 := edL_len h6
  clear hown hE hb HA2 HM HB2 hz2
  go_wp2_with fail
  go_loopw [10] (fun v wr => ∃ j : Nat, j ≤ (edL n).length ∧ v = .int .i64 j ∧ Hid (NB wr w.heap.size n (chgR R (fun x y => mirN (R x y)) ((edL n).take j))) ∧ Hid (Wr w.heap.size w3 wr)) (fun v _ => (edL n).length - (intOf v).toNat)
  case atStart => exact ⟨0, by omega, rfl, hid (by simpa [chgR] using HA3.out), hid (Wr.refl _ _)⟩
  case round =>
    obtain ⟨j, hj, rfl, HN, HX⟩ := hrel
    clear HS
    obtain ⟨wi, rfl⟩ : ∃ wi : World, wi = wr := ⟨_, rfl⟩
    by_cases hjl : j < (edL n).length
    · have hdj : decide ((j : Int) < ((edL n).length : Int)) = true := by simp; omega
      have hdk : decide (j < (edL n).length) = true := by simp; omega
      obtain ⟨g, rfl, hg, c0, c1, c2⟩ := HE.out j hjl
      obtain ⟨g', hgg, hgl⟩ := HG.out j hjl
      cases hgg
      have hea := edL_at hjl
      have HTK := hid (show chgR R (fun x y => mirN (R x y)) ((edL n).take (j + 1)) = putR (chgR R (fun x y => mirN (R x y)) ((edL n).take j)) ((edL n).getD j (0, 0)).1 ((edL n).getD j (0, 0)).2 (mirN (R ((edL n).getD j (0, 0)).1 ((edL n).getD j (0, 0)).2)) by rw [takeP _ _ hjl, chgR_snoc])
      have hr8 := HOK.out.lt ((edL n).getD j (0, 0)).1 ((edL n).getD j (0, 0)).2
      have hgA : g ≠ w.heap.size := by omega
      have d0 : wi.cell? ⟨g, j * 3, none⟩ = _ := (HX.out.cell hg hgA).trans c0
      have d1 : wi.cell? ⟨g, j * 3 + 1, none⟩ = _ := (HX.out.cell hg hgA).trans c1
      have d2 : wi.cell? ⟨g, j * 3 + 2, none⟩ = _ := (HX.out.cell hg hgA).trans c2
      clear c0 c1 c2
      generalize R ((edL n).getD j (0, 0)).1 ((edL n).getD j (0, 0)).2 = r at *
      generalize hqq : chgR R (fun x y => mirN (R x y)) ((edL n).take (j + 1)) = Q at *
      have HQQ := hid hqq
      clear hqq
      generalize chgR R (fun x y => mirN (R x y)) ((edL n).take j) = P at *
      generalize ((edL n).getD j (0, 0)).1 = x at *
      generalize ((edL n).getD j (0, 0)).2 = y at *
      have x6 : x < 6 := by omega
      have y6 : y < 6 := by omega
      have HTi := hid (HT.out.below (HB3.out.trans (HX.out.below (Nat.le_refl _) HB3.out.size)))
      have hAi := HN.out.lt
      have HBi := hid ((Below.refl wi.heap.size wi).alloc (Nat.le_refl _) (.cells #[.int .i64 x, .int .i64 r, .int .i64 y] 69))
      obtain ⟨m0, m1, m2⟩ := new_cell3 wi (.int .i64 x) (.int .i64 r) (.int .i64 y) 69
      have mf := (fun i => frozen_of_row (wi.alloc (.cells #[.int .i64 x, .int .i64 r, .int .i64 y] 69)) wi.heap.size i _ _ (heap_alloc_new wi _))
      go_wp2_with fail
      (with_reducible refine (closM_any x r y hr8 _ (HTi.out.below HBi.out)).mono ?_)
      rintro e w4 ⟨rfl, hb⟩
      have hz4 := hb.size
      rw [World.size_alloc] at hz4
      have q0 := (hb.cell (p := ⟨wi.heap.size, 0, none⟩) (by simp)).trans m0
      have q1 := (hb.cell (p := ⟨wi.heap.size, 1, none⟩) (by simp)).trans m1
      have q2 := (hb.cell (p := ⟨wi.heap.size, 2, none⟩) (by simp)).trans m2
      have qf := (hb.frozen (p := ⟨wi.heap.size, 1, none⟩) (by simp)).trans (mf 1)
      have HBj := hid (HBi.out.trans (hb.mono (by simp)))
      clear hb m0 m1 m2 mf d0 d1 d2
      go_wp2_with fail
      have HBk := hid (HBj.out.setCell (p := ⟨wi.heap.size, 1, none⟩) (Nat.le_refl _) (.int .i64 ((mirN r : Nat) : Int)))
      have HNk := hid (HN.out.below' HBk.out)
      generalize w4.setCell ⟨wi.heap.size, 1, none⟩ (.int .i64 ((mirN r : Nat) : Int)) = w5 at *
      (with_reducible refine (put_any w.heap.size n P x (mirN r) y x6 y6 (mirN_lt r) _ (HTi.out.below HBk.out) HNk.out).mono ?_)
      rintro e w6 ⟨rfl, hn6, hw6⟩
      have HN6 := hid (show NB w6 w.heap.size n Q by rw [HTK.out]; exact hn6)
      have HX6 := hid ((HX.out.trans (Wr.of_below HBk.out)).trans hw6)
      clear hn6 hw6
      go_wp2_with fail
      go_roundw
      case rel => exact ⟨j + 1, by omega, by go_num, by rw [HQQ.out]; exact HN6, HX6⟩
      case measure => simp [intOf]; omega
    · obtain rfl : j = (edL n).length := by omega
      have hdj : decide (((edL n).length : Int) < ((edL n).length : Int)) = false := by simp
      have HNR := hid (HN.out.congr (show chgR R (fun x y => mirN (R x y)) ((edL n).take (edL n).length) = mirR R by
        rw [List.take_length, chgR_all]
        exact okR_ext (chR_ok HOK.out fun a b _ _ => mirN_lt _) (mirR_ok HOK.out) fun a b h1 h2 => chR_pair h1 h2))
      have HMR := hid (HM3.out.wr HX.out (by omega))
      go_wp2_with (first | refine ld_net rfl _ rfl rfl HNR.out ?_ | refine st_net rfl _ _ rfl rfl rfl HMR.out ?_)
      refine bodyPost_ret (res_net1 rfl _ _ _ _ rfl (NB.row HMR.out _ _)) rfl ?_
      exact ⟨rfl, below_setRow (HB3.out.trans (HX.out.below (Nat.le_refl _) HB3.out.size)) (by omega) _⟩
end Go.Proofs.YtdamnhigdaklcaaDoor.C
