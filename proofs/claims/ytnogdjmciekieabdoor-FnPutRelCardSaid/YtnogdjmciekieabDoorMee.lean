/- The program's networks, changed: what is put, and the mirror. The mirrored network: the model, the program, the exact law. Two networks in the program: networks changed by closures that capture, what both allow, whether one lies within the other. -/
import Derived.Test.YtnogdjmciekieabDoorNetC
import Derived.Test.YtnogdjmciekieabDoorNetN
import Derived.Test.YtnogdjmciekieabDoorInts
import Derived.Test.YtnogdjmciekieabDoorNetO
import Derived.Test.YtnogdjmciekieabDoorNts
import Derived.Deep.RegionHeld3
namespace Go.Proofs.YtnogdjmciekieabDoor.C
section
open Go.RowKit
set_option linter.unusedVariables false
set_option linter.unusedSimpArgs false
theorem NB.wr {q : Nat} {w w' : World} {g n : Nat} {M : Nat → Nat → Nat} (h : NB w g n M) (hw : Wr q w w') (hg : g ≠ q) : NB w' g n M := (hw.block g h.lt hg).trans h
set_option maxHeartbeats 4000000 in
set_option maxRecDepth 100000 in
theorem put_any (g n : Nat) (R : Nat → Nat → Nat) (i r k : Nat) (hi : i < 6) (hk : k < 6) (hr : r < 8192) (w : World) (hT : TB w) (hN : NB w g n R) :
    Calls Tryd.prog 93 #[.pointer (some ⟨g, 0, none⟩), .agg #[.int .i64 i, .int .i64 r, .int .i64 k]] w fun e w' => e = .returned (.tuple #[]) ∧ (NB w' g n (putR R i k r) ∧ Wr g w w') := by
  have HT := hid (hT.below ((Below.refl w.heap.size w).alloc (Nat.le_refl _) (.cells #[.int .i64 i, .int .i64 r, .int .i64 k] 68)))
  have HN := hid hN
  have hgA : ¬ g = w.heap.size := by have := hN.lt; omega
  clear hT hN
  have HS := AllLt.start w; go_enter Tryd.func93, Tryd.ntmps93
  go_wp2_with fail
  (with_reducible refine (eturn_any i r k hr _ HT.out).mono ?_)
  rintro e w2 ⟨rfl, hb⟩
  have hz := hb.size
  rw [World.size_alloc] at hz
  have HW2 := hid (Wr.of_below (q := g) (((Below.refl w.heap.size w).alloc (Nat.le_refl _) (.cells #[.int .i64 i, .int .i64 r, .int .i64 k] 68)).trans (hb.mono (by simp))))
  obtain ⟨m0, m1, m2⟩ := new_cell3 w (.int .i64 i) (.int .i64 r) (.int .i64 k) 68
  have q0 := hid ((hb.cell (p := ⟨w.heap.size, 0, none⟩) (by simp)).trans m0)
  have q1 := hid ((hb.cell (p := ⟨w.heap.size, 1, none⟩) (by simp)).trans m1)
  have q2 := hid ((hb.cell (p := ⟨w.heap.size, 2, none⟩) (by simp)).trans m2)
  have HN2 := hid ((HN.out.alloc (.cells #[.int .i64 i, .int .i64 r, .int .i64 k] 68)).below hb (by rw [World.size_alloc]; have := HN.out.lt; omega))
  clear hb m0 m1 m2
  go_upto_region 2 with fail
  obtain ⟨t0, t1, t2⟩ := new_cell3 w2 (.int .i64 k) (.int .i64 ((turN r : Nat) : Int)) (.int .i64 i) 68
  have HN3 := hid (HN2.out.alloc (.cells #[.int .i64 k, .int .i64 ((turN r : Nat) : Int), .int .i64 i] 68))
  have HBa := hid ((Below.refl w2.heap.size w2).alloc (Nat.le_refl _) (.cells #[.int .i64 k, .int .i64 ((turN r : Nat) : Int), .int .i64 i] 68))
  have HW3 := hid (HW2.out.trans (Wr.of_below HBa.out))
  have p0 := (HBa.out.cell (p := ⟨w.heap.size, 0, none⟩) (show w.heap.size < w2.heap.size by omega)).trans q0.out
  have p1 := (HBa.out.cell (p := ⟨w.heap.size, 1, none⟩) (show w.heap.size < w2.heap.size by omega)).trans q1.out
  have p2 := (HBa.out.cell (p := ⟨w.heap.size, 2, none⟩) (show w.heap.size < w2.heap.size by omega)).trans q2.out
  have hgT : ¬ g = w2.heap.size := by have := HN2.out.lt; omega
  generalize hTT : w2.heap.size = T at *
  clear HBa
  generalize w2.alloc (.cells #[.int .i64 k, .int .i64 ((turN r : Nat) : Int), .int .i64 i] 68) = w3 at *
  have hc := HN3.out.cell hi hk
  have hf := HN3.out.frozen (1 + i * 6 + k)
  have i0 : (0 : Int) ≤ (i : Int) := by omega
  have i6 : (i : Int) < 6 := by omega
  have k0 : (0 : Int) ≤ (k : Int) := by omega
  have k6 : (k : Int) < 6 := by omega
  have HS4 := hid (show (w3.setCell ⟨g, 1 + i * 6 + k, none⟩ (.int .i64 (r : Int))).drew.cell? ⟨T, 0, none⟩ = some (.int .i64 k) ∧ (w3.setCell ⟨g, 1 + i * 6 + k, none⟩ (.int .i64 (r : Int))).drew.cell? ⟨T, 1, none⟩ = some (.int .i64 ((turN r : Nat) : Int)) ∧ (w3.setCell ⟨g, 1 + i * 6 + k, none⟩ (.int .i64 (r : Int))).drew.cell? ⟨T, 2, none⟩ = some (.int .i64 i) by
    have hh := heap_setCell_other w3 ⟨g, 1 + i * 6 + k, none⟩ T (.int .i64 (r : Int)) (fun e => hgT e.symm)
    have hh : (w3.setCell ⟨g, 1 + i * 6 + k, none⟩ (.int .i64 (r : Int))).drew.heap[T]? = w3.heap[T]? := hh
    exact ⟨(World.cell?_of_block (a := ⟨T, 0, none⟩) hh).trans t0, (World.cell?_of_block (a := ⟨T, 1, none⟩) hh).trans t1, (World.cell?_of_block (a := ⟨T, 2, none⟩) hh).trans t2⟩)
  have HN4 := hid (show NB (w3.setCell ⟨g, 1 + i * 6 + k, none⟩ (.int .i64 (r : Int))).drew g n (upd R i k r) from HN3.out.set r hi hk)
  have HW4 := hid (show Wr g w (w3.setCell ⟨g, 1 + i * 6 + k, none⟩ (.int .i64 (r : Int))).drew from (HW3.out.trans (Wr.setCell w3 g (1 + i * 6 + k) (.int .i64 (r : Int)))).drewN 1)
  clear t0 t1 t2
  go_region
  all_goals
    go_wp2
    clear hc hf p0 p1 p2
    generalize (w3.setCell ⟨g, 1 + i * 6 + k, none⟩ (.int .i64 (r : Int))).drew = w4 at *
    have t0 := HS4.out.1
    have t1 := HS4.out.2.1
    have t2 := HS4.out.2.2
    have hc := HN4.out.cell hk hi
    have hf := HN4.out.frozen (1 + k * 6 + i)
    have HN5 := hid (show NB (w4.setCell ⟨g, 1 + k * 6 + i, none⟩ (.int .i64 ((turN r : Nat) : Int))).drew g n (putR R i k r) from HN4.out.set (turN r) hk hi)
    have HW5 := hid (show Wr g w (w4.setCell ⟨g, 1 + k * 6 + i, none⟩ (.int .i64 ((turN r : Nat) : Int))).drew from (HW4.out.trans (Wr.setCell w4 g (1 + k * 6 + i) (.int .i64 ((turN r : Nat) : Int)))).drewN 1)
    go_region
    all_goals
      go_wp2
      go_end0
      exact ⟨rfl, HN5.out, HW5.out⟩
end
section
open Go.RowKit
set_option linter.unusedVariables false
set_option linter.unusedSimpArgs false
end
section
open Go.RowKit
set_option linter.unusedVariables false
set_option linter.unusedSimpArgs false
set_option maxHeartbeats 4000000 in
set_option maxRecDepth 100000 in
/-- A network whose pairs are changed by a closure that captures one thing. -/
theorem changedC1_any (C : Nat) (hcf : ∀ (args : Array Value) (w : World), (callFunc C args).run Tryd.prog w = .ok (.enter C args) w) (c : Value) (n : Nat) (h6 : n ≤ 6) (R F : Nat → Nat → Nat) (hF : ∀ x y, F x y < 8192) (w : World)
    (hT : TB w)
    (hC : ∀ x y, x < y → y < n → ∀ w1, Below w.heap.size w w1 → Calls Tryd.prog C #[.agg #[.int .i64 (x : Int), .int .i64 ((R x y : Nat) : Int), .int .i64 (y : Int)], c] w1 fun e w' => e = .returned (.int .i64 ((F x y : Nat) : Int)) ∧ Below w1.heap.size w1 w') :
    Calls Tryd.prog 64 #[.agg (netV n R), .func (.func C) #[] #[c]] w fun e w' => e = .returned (.agg (netV n (chR n R F))) ∧ Below w.heap.size w w' := by
  have HT := hid hT
  have HC := hid hC
  have HF := hid hF
  clear hT hC hF
  have HA := hid (NB.made w n R)
  have HM := hid (NB.made (w.alloc (.cells (netV n R) 63)) 0 fun _ _ => 0)
  have HS := AllLt.start w; go_enter Tryd.func64, Tryd.ntmps64
  go_upto_region 1 with (refine al_net rfl rfl ?_)
  have HA2 := hid (HA.out.alloc (.cells (netV 0 fun _ _ => 0) 63))
  have HB2 := hid ((((Below.refl w.heap.size w).alloc (Nat.le_refl _) (.cells (netV n R) 63)).alloc (by simp) (.cells (netV 0 fun _ _ => 0) 63)))
  have hz2 : ((w.alloc (.cells (netV n R) 63)).alloc (.cells (netV 0 fun _ _ => 0) 63)).heap.size = w.heap.size + 1 + 1 := by rw [World.size_alloc, World.size_alloc]
  rw [World.size_alloc] at HM
  clear HA
  generalize (w.alloc (.cells (netV n R) 63)).alloc (.cells (netV 0 fun _ _ => 0) 63) = w2 at *
  go_wp2_with (refine ld_net rfl _ rfl rfl HA2.out ?_)
  (with_reducible refine (edges_any n h6 R _).mono ?_)
  rintro e w3 ⟨⟨v, rfl, hown⟩, hb⟩
  obtain ⟨a, cap, rfl, hE⟩ := Es.of_own hown
  have HG := hid (show ∀ j, j < (edL n).length → ∃ g, a = some ⟨g, 0, none⟩ ∧ w.heap.size + 1 + 1 < g from fun j hj => by
    rcases hown.2 with ⟨hv, h0⟩ | ⟨g, cap', cur, hv, hB, _⟩
    · omega
    · cases hv; exact ⟨g, rfl, by omega⟩)
  have HE := hid hE
  have HA3 := hid (HA2.out.below' hb)
  have HM3 := hid (HM.out.below hb (by omega))
  have HB3 := hid (HB2.out.trans (hb.mono HB2.out.size))
  have hz3 : Hid (w.heap.size + 1 + 1 ≤ w3.heap.size) := hid (by have := hb.size; omega)
  have hl15 := edL_len h6
  clear hown hE hb HA2 HM HB2 hz2
  go_wp2_with fail
  go_loopw [10] (fun v wr => ∃ j : Nat, j ≤ (edL n).length ∧ v = .int .i64 j ∧ Hid (NB wr w.heap.size n (chgR R F ((edL n).take j))) ∧ Hid (Wr w.heap.size w3 wr)) (fun v _ => (edL n).length - (intOf v).toNat)
  case atStart => exact ⟨0, by omega, rfl, hid (by simpa [chgR] using HA3.out), hid (Wr.refl _ _)⟩
  case round =>
    obtain ⟨j, hj, rfl, HN, HX⟩ := hrel
    clear HS
    obtain ⟨wi, rfl⟩ : ∃ wi : World, wi = wr := ⟨_, rfl⟩
    by_cases hjl : j < (edL n).length
    · have hdj : decide ((j : Int) < ((edL n).length : Int)) = true := by simp; omega
      have hdk : decide (j < (edL n).length) = true := by simp; omega
      obtain ⟨g, rfl, hg, c0, c1, c2⟩ := HE.out j hjl
      obtain ⟨g', hgg, hgl⟩ := HG.out j hjl
      cases hgg
      have hea := edL_at hjl
      have HTK := hid (show chgR R F ((edL n).take (j + 1)) = putR (chgR R F ((edL n).take j)) ((edL n).getD j (0, 0)).1 ((edL n).getD j (0, 0)).2 (F ((edL n).getD j (0, 0)).1 ((edL n).getD j (0, 0)).2) by rw [takeP _ _ hjl, chgR_snoc])
      have hgA : g ≠ w.heap.size := by omega
      have d0 : wi.cell? ⟨g, j * 3, none⟩ = _ := (HX.out.cell hg hgA).trans c0
      have d1 : wi.cell? ⟨g, j * 3 + 1, none⟩ = _ := (HX.out.cell hg hgA).trans c1
      have d2 : wi.cell? ⟨g, j * 3 + 2, none⟩ = _ := (HX.out.cell hg hgA).trans c2
      clear c0 c1 c2
      have HCj := hid (HC.out _ _ hea.1 hea.2)
      have HFj := hid (HF.out ((edL n).getD j (0, 0)).1 ((edL n).getD j (0, 0)).2)
      generalize R ((edL n).getD j (0, 0)).1 ((edL n).getD j (0, 0)).2 = r at *
      generalize F ((edL n).getD j (0, 0)).1 ((edL n).getD j (0, 0)).2 = q at *
      generalize hqq : chgR R F ((edL n).take (j + 1)) = Q at *
      have HQQ := hid hqq
      clear hqq
      generalize chgR R F ((edL n).take j) = P at *
      generalize ((edL n).getD j (0, 0)).1 = x at *
      generalize ((edL n).getD j (0, 0)).2 = y at *
      have x6 : x < 6 := by omega
      have y6 : y < 6 := by omega
      have HBr := hid (HB3.out.trans (HX.out.below (Nat.le_refl _) HB3.out.size))
      have HTi := hid (HT.out.below HBr.out)
      have hAi := HN.out.lt
      have HBi := hid ((Below.refl wi.heap.size wi).alloc (Nat.le_refl _) (.cells #[.int .i64 x, .int .i64 r, .int .i64 y] 68))
      have HBn := hid (HBr.out.alloc (HBr.out.size) (.cells #[.int .i64 x, .int .i64 r, .int .i64 y] 68))
      obtain ⟨m0, m1, m2⟩ := new_cell3 wi (.int .i64 x) (.int .i64 r) (.int .i64 y) 68
      have mf := (fun i => frozen_of_row (wi.alloc (.cells #[.int .i64 x, .int .i64 r, .int .i64 y] 68)) wi.heap.size i _ _ (heap_alloc_new wi _))
      go_wp2_with fail
      (with_reducible refine (HCj.out _ HBn.out).mono ?_)
      rintro e w4 ⟨rfl, hb⟩
      have hz4 := hb.size
      rw [World.size_alloc] at hz4
      have q0 := (hb.cell (p := ⟨wi.heap.size, 0, none⟩) (by simp)).trans m0
      have q1 := (hb.cell (p := ⟨wi.heap.size, 1, none⟩) (by simp)).trans m1
      have q2 := (hb.cell (p := ⟨wi.heap.size, 2, none⟩) (by simp)).trans m2
      have qf := (hb.frozen (p := ⟨wi.heap.size, 1, none⟩) (by simp)).trans (mf 1)
      have HBj := hid (HBi.out.trans (hb.mono (by simp)))
      clear hb m0 m1 m2 mf d0 d1 d2
      go_wp2_with fail
      have HBk := hid (HBj.out.setCell (p := ⟨wi.heap.size, 1, none⟩) (Nat.le_refl _) (.int .i64 ((q : Nat) : Int)))
      have HNk := hid (HN.out.below' HBk.out)
      generalize w4.setCell ⟨wi.heap.size, 1, none⟩ (.int .i64 ((q : Nat) : Int)) = w5 at *
      (with_reducible refine (put_any w.heap.size n P x q y x6 y6 HFj.out _ (HTi.out.below HBk.out) HNk.out).mono ?_)
      rintro e w6 ⟨rfl, hn6, hw6⟩
      have HN6 := hid (show NB w6 w.heap.size n Q by rw [HTK.out]; exact hn6)
      have HX6 := hid ((HX.out.trans (Wr.of_below HBk.out)).trans hw6)
      clear hn6 hw6
      go_wp2_with fail
      go_roundw
      case rel => exact ⟨j + 1, by omega, by go_num, by rw [HQQ.out]; exact HN6, HX6⟩
      case measure => simp [intOf]; omega
    · obtain rfl : j = (edL n).length := by omega
      have hdj : decide (((edL n).length : Int) < ((edL n).length : Int)) = false := by simp
      have HNR := hid (HN.out.congr (show chgR R F ((edL n).take (edL n).length) = chR n R F by rw [List.take_length, chgR_all]))
      have HMR := hid (HM3.out.wr HX.out (by omega))
      go_wp2_with (first | refine ld_net rfl _ rfl rfl HNR.out ?_ | refine st_net rfl _ _ rfl rfl rfl HMR.out ?_)
      refine bodyPost_ret (res_net1 rfl _ _ _ _ rfl (NB.row HMR.out _ _)) rfl ?_
      exact ⟨rfl, below_setRow (HB3.out.trans (HX.out.below (Nat.le_refl _) HB3.out.size)) (by omega) _⟩
noncomputable def winB (z : Int) (s : ByteArray) (y : Int) (t : ByteArray) : Bool := botB z s y t && witB (mx z.toNat s) (mx y.toNat t) (edL z.toNat)
theorem winB_no {z : Int} {s : ByteArray} {y : Int} {t : ByteArray} (h : botB z s y t = false) : winB z s y t = false := by simp [winB, h]
theorem winB_yes {n : Nat} {R S : Nat → Nat → Nat} (hR : OkR n R) (hS : OkR n S) : winB n (netS n R) n (netS n S) = witB R S (edL n) := by simp [winB, botB_in hR hS, mx_net hR, mx_net hS]
set_option maxHeartbeats 1000000 in
set_option maxRecDepth 100000 in
theorem iWithinNet_any (z : Int) (s : ByteArray) (y : Int) (t : ByteArray) (w : World) (hT : TB w) :
    Calls Tryd.prog 13 #[.agg #[.int .i64 z, .string s], .agg #[.int .i64 y, .string t]] w fun e w' => e = .returned (.bool (winB z s y t)) ∧ Below w.heap.size w w' := by
  rcases botB_cases z s y t with h | ⟨n, R, S, hR, hS, rfl, rfl, rfl, rfl⟩
  · have HB := hid (((Below.refl w.heap.size w).alloc (Nat.le_refl _) (.cells #[.int .i64 z, .string s] 24)).alloc (by simp) (.cells #[.int .i64 y, .string t] 24))
    have HT := hid (hT.below HB.out)
    have HNV := hid h
    clear h hT
    have HS := AllLt.start w; go_enter Tryd.func13, Tryd.ntmps13
    go_wp2_with fail
    (with_reducible refine (networksOf_no z s y t HNV.out _ HT.out).mono ?_)
    rintro e w1 ⟨rfl, hb⟩
    have HX := hid (below_setRow (below_setRow ((hb.alloc hb.size (.cells (netV 0 fun _ _ => 0) 63)).alloc (Nat.le_trans hb.size (by simp)) (.cells (netV 0 fun _ _ => 0) 63)) (g := w1.heap.size) hb.size (netV 0 fun _ _ => 0)) (g := w1.heap.size + 1) (Nat.le_succ_of_le hb.size) (netV 0 fun _ _ => 0))
    have HB2 := hid (HB.out.trans (HX.out.mono HB.out.size))
    have HA := hid ((NB.made w1 0 fun _ _ => 0).alloc (.cells (netV 0 fun _ _ => 0) 63))
    have HA2 := hid (show NB ((w1.alloc (.cells (netV 0 fun _ _ => 0) 63)).alloc (.cells (netV 0 fun _ _ => 0) 63)) (w1.heap.size + 1) 0 fun _ _ => 0 by
      have h := NB.made (w1.alloc (.cells (netV 0 fun _ _ => 0) 63)) 0 fun _ _ => 0
      rw [World.size_alloc] at h
      exact h)
    have e1 : w1.heap.size + 1 ≠ w1.heap.size := by omega
    have HA3 := hid (NB.made (w1.alloc (.cells (netV 0 fun _ _ => 0) 63)) 0 fun _ _ => 0)
    have e3 : (w1.alloc (.cells (netV 0 fun _ _ => 0) 63)).heap.size ≠ w1.heap.size := by rw [World.size_alloc]; omega
    clear hb
    go_upto_region 2 with (first | refine al_net rfl rfl ?_ | refine st_net rfl _ _ rfl rfl rfl HA.out ?_ | refine st_net rfl _ _ rfl rfl rfl (HA3.out.rowFar e3 _) ?_)
    (try simp only [World.size_alloc])
    generalize (((w1.alloc (.cells (netV 0 fun _ _ => 0) 63)).alloc (.cells (netV 0 fun _ _ => 0) 63)).setRow w1.heap.size (netV 0 fun _ _ => 0)).setRow (w1.heap.size + 1) (netV 0 fun _ _ => 0) = w2 at *
    go_wp2_with fail
    go_ret
    exact ⟨ret_bool (winB_no HNV.out).symm, HB2.out⟩
  · have HN0 := hid (networksOf_yes n R S hR hS)
    have HV := hid (winB_yes hR hS)
    have HW := hid (nwithin_any n hR.le R S hR.lt hS.lt)
    generalize winB n (netS n R) n (netS n S) = v at *
    generalize witB R S (edL n) = v' at *
    clear hR hS
    generalize netS n R = s at *
    generalize netS n S = t at *
    have HB := hid (((Below.refl w.heap.size w).alloc (Nat.le_refl _) (.cells #[.int .i64 n, .string s] 24)).alloc (by simp) (.cells #[.int .i64 n, .string t] 24))
    have HT := hid (hT.below HB.out)
    clear hT
    have HS := AllLt.start w; go_enter Tryd.func13, Tryd.ntmps13
    go_wp2_with fail
    (with_reducible refine (HN0.out _ HT.out).mono ?_)
    rintro e w1 ⟨rfl, hb⟩
    have HX := hid (below_setRow (below_setRow ((hb.alloc hb.size (.cells (netV 0 fun _ _ => 0) 63)).alloc (Nat.le_trans hb.size (by simp)) (.cells (netV 0 fun _ _ => 0) 63)) (g := w1.heap.size) hb.size (netV n R)) (g := w1.heap.size + 1) (Nat.le_succ_of_le hb.size) (netV n S))
    have HB2 := hid (HB.out.trans (HX.out.mono HB.out.size))
    have HA := hid ((NB.made w1 0 fun _ _ => 0).alloc (.cells (netV 0 fun _ _ => 0) 63))
    have HA2 := hid (show NB ((w1.alloc (.cells (netV 0 fun _ _ => 0) 63)).alloc (.cells (netV 0 fun _ _ => 0) 63)) (w1.heap.size + 1) 0 fun _ _ => 0 by
      have h := NB.made (w1.alloc (.cells (netV 0 fun _ _ => 0) 63)) 0 fun _ _ => 0
      rw [World.size_alloc] at h
      exact h)
    have e1 : w1.heap.size + 1 ≠ w1.heap.size := by omega
    have HA3 := hid (NB.made (w1.alloc (.cells (netV 0 fun _ _ => 0) 63)) 0 fun _ _ => 0)
    have e3 : (w1.alloc (.cells (netV 0 fun _ _ => 0) 63)).heap.size ≠ w1.heap.size := by rw [World.size_alloc]; omega
    have e2 : w1.heap.size ≠ w1.heap.size + 1 := by omega
    have HR2 := hid ((HA.out.row n R).rowFar e2 (netV n S))
    have HS2 := hid ((HA2.out.rowFar e1 (netV n R)).row n S)
    clear hb
    go_upto_region 2 with (first | refine al_net rfl rfl ?_ | refine st_net rfl _ _ rfl rfl rfl HA.out ?_ | refine st_net rfl _ _ rfl rfl rfl (HA3.out.rowFar e3 _) ?_)
    (try simp only [World.size_alloc])
    generalize (((w1.alloc (.cells (netV 0 fun _ _ => 0) 63)).alloc (.cells (netV 0 fun _ _ => 0) 63)).setRow w1.heap.size (netV n R)).setRow (w1.heap.size + 1) (netV n S) = w2 at *
    have r0 := NB.run HR2.out
    have r1 := NB.run HS2.out
    go_wp2_with fail
    (with_reducible refine (HW.out _).mono ?_)
    rintro e w3 ⟨rfl, hb⟩
    have HB3 := hid (HB2.out.trans (hb.mono HB2.out.size))
    clear hb r0 r1
    go_wp2_with fail
    go_ret
    exact ⟨ret_bool HV.out.symm, HB3.out⟩
end
end Go.Proofs.YtnogdjmciekieabDoor.C
