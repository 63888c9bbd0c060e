/- Chapter 4: convex hulls: the model's words. -/
import Derived.Test.YtnogdjmciekieabDoorLat4
import Derived.Deep.RegionWith
import Derived.Deep.RegionHeld3
namespace Go.Proofs.YtnogdjmciekieabDoor.C
open Go.RowKit
set_option linter.unusedVariables false
set_option linter.unusedSimpArgs false
/-- Two numbers in a block. -/
structure PrAt (w : World) (b : Nat) (x y : Int) : Prop where
  c0 : w.cell? ⟨b, 0, none⟩ = some (.int .i64 x)
  c1 : w.cell? ⟨b, 1, none⟩ = some (.int .i64 y)
  lt : b < w.heap.size
theorem PrAt.below {w w' : World} {b : Nat} {x y : Int} (h : PrAt w b x y) (hb : Below w.heap.size w w') : PrAt w' b x y :=
  ⟨(hb.cell (p := ⟨b, 0, none⟩) h.lt).trans h.c0, (hb.cell (p := ⟨b, 1, none⟩) h.lt).trans h.c1, Nat.lt_of_lt_of_le h.lt hb.size⟩
theorem PrAt.made (w : World) (m : Nat) (x y : Int) (t : TypeId) : PrAt ((w.drewN m).alloc (.cells #[.int .i64 x, .int .i64 y] t)) w.heap.size x y := by
  have key : ∀ W : World, PrAt (W.alloc (.cells #[.int .i64 x, .int .i64 y] t)) W.heap.size x y := fun W => ⟨by simp [go_sem], by simp [go_sem], by simp⟩
  exact key (w.drewN m)
set_option maxHeartbeats 4000000 in
theorem l4Hull_any (n : Nat) (hn : n < 8192) (w : World) :
    Calls Tryd.prog 126 #[.int .i64 n] w fun e w' => e = .returned (.int .i64 ((hull n : Nat) : Int)) ∧ Below w.heap.size w w' := by
  have HS := AllLt.start w; go_enter Tryd.func126, Tryd.ntmps126
  go_wp2
  go_loopw [3, 4, 5] (fun lo hi i wr => ∃ (k g1 g2 : Nat), k ≤ 13 ∧ i = .int .i64 k ∧ lo = .slice (some ⟨g1, 0, none⟩) 2 2 ∧ hi = .slice (some ⟨g2, 0, none⟩) 2 2 ∧ Hid (PrAt wr g1 (loZ zf (bl n.testBit k)) (loZ zt (bl n.testBit k)) ∧ PrAt wr g2 (hiZ zf (bl n.testBit k)) (hiZ zt (bl n.testBit k)) ∧ Below w.heap.size w wr)) (fun _ _ i _ => 13 - (intOf i).toNat)
  case atStart => exact ⟨0, w.heap.size, w.heap.size + 1, by omega, rfl, rfl, rfl, hid ⟨(PrAt.made w 0 4 4 _).below ((Below.refl _ _).alloc (Nat.le_refl _) _), ⟨by simp [go_sem]; rfl, by simp [go_sem]; rfl, by simp⟩, by (repeat' (first | (with_reducible exact Below.refl _ _) | (with_reducible refine Below.setCell ?_ ?_ _) | (with_reducible refine below_drewN' ?_ _) | (with_reducible refine below_drew' ?_) | (with_reducible refine Below.alloc ?_ ?_ _) | (with_reducible assumption) | go_size))⟩⟩
  case round =>
    obtain ⟨k, g1, g2, hk, rfl, rfl, rfl, HI⟩ := hrel
    clear HS
    obtain ⟨wo, rfl⟩ : ∃ wo : World, wo = wr := ⟨_, rfl⟩
    by_cases h13 : k < 13
    · have hdi : decide ((k : Int) < 13) = true := by simp; omega
      cases hq : n.testBit k
      · have HQ := hid hq
        have HF := hid (bl_miss (p := n.testBit) hq)
        clear hq
        go_wp2_with (first | (go_at_call 114; (with_reducible refine (l3Has_any n k hn h13 _).mono ?_); rintro e w' ⟨rfl, rfl⟩; rw [HQ.out]))
        go_roundw
        case rel => exact ⟨k + 1, g1, g2, by omega, by go_num, rfl, rfl, by rw [HF.out]; exact HI⟩
        case measure => simp [intOf]; omega
      · have HQ := hid hq
        have HF := hid (bl_hit (p := n.testBit) hq)
        clear hq
        have HT1 := hid (congrArg (loZ zf) HF.out |>.trans (loZ_snoc _ _ _))
        have HT2 := hid (congrArg (loZ zt) HF.out |>.trans (loZ_snoc _ _ _))
        have HT3 := hid (congrArg (hiZ zf) HF.out |>.trans (hiZ_snoc _ _ _))
        have HT4 := hid (congrArg (hiZ zt) HF.out |>.trans (hiZ_snoc _ _ _))
        have i1 := zf_at h13
        have i2 := zt_at h13
        have z1 := zf_in h13
        have z2 := zt_in h13
        generalize zf k = x at *
        generalize zt k = y at *
        obtain ⟨x1, x2⟩ := z1
        obtain ⟨y1, y2⟩ := z2
        generalize loZ zf (bl n.testBit k) = a1 at *
        generalize loZ zt (bl n.testBit k) = a2 at *
        generalize hiZ zf (bl n.testBit k) = a3 at *
        generalize hiZ zt (bl n.testBit k) = a4 at *
        go_wp2_with (first | (go_at_call 114; (with_reducible refine (l3Has_any n k hn h13 _).mono ?_); rintro e w' ⟨rfl, rfl⟩; rw [HQ.out]))
        have c1 : ∀ m, (wo.drewN m).cell? ⟨g1, 0, none⟩ = some (.int .i64 a1) := fun _ => HI.out.1.c0
        have c2 : ∀ m, (wo.drewN m).cell? ⟨g1, 1, none⟩ = some (.int .i64 a2) := fun _ => HI.out.1.c1
        have c3 : ∀ m, (wo.drewN m).cell? ⟨g2, 0, none⟩ = some (.int .i64 a3) := fun _ => HI.out.2.1.c0
        have c4 : ∀ m, (wo.drewN m).cell? ⟨g2, 1, none⟩ = some (.int .i64 a4) := fun _ => HI.out.2.1.c1
        have l1 := HI.out.1.lt
        have l2 := HI.out.2.1.lt
        go_quiet (fail)
        go_wp2
        go_region
        have e1 : min a1 x = (if x < a1 then x else a1) := by split <;> omega
        have e2 : min a2 y = (if y < a2 then y else a2) := by split <;> omega
        have e3 : max a3 x = (if a3 < x then x else a3) := by split <;> omega
        have e4 : max a4 y = (if a4 < y then y else a4) := by split <;> omega
        rw [e1] at HT1
        rw [e2] at HT2
        rw [e3] at HT3
        rw [e4] at HT4
        clear e1 e2 e3 e4
        generalize (if x < a1 then x else a1) = b1 at *
        generalize (if y < a2 then y else a2) = b2 at *
        have H7 : Hid (PrAt ((wo.drewN (nq + 1)).alloc (.cells #[.int .i64 b1, .int .i64 b2] 3)) wo.heap.size b1 b2 ∧ PrAt ((wo.drewN (nq + 1)).alloc (.cells #[.int .i64 b1, .int .i64 b2] 3)) g2 a3 a4 ∧ Below w.heap.size w ((wo.drewN (nq + 1)).alloc (.cells #[.int .i64 b1, .int .i64 b2] 3))) :=
          hid ⟨PrAt.made wo (nq + 1) b1 b2 3, HI.out.2.1.below ((below_drewN wo.heap.size wo (nq + 1)).alloc (Nat.le_refl _) _), (below_drewN' HI.out.2.2 (nq + 1)).alloc HI.out.2.2.size _⟩
        clear c1 c2 c3 c4 l1 l2 HI
        generalize ((wo.drewN (nq + 1)).alloc (.cells #[.int .i64 b1, .int .i64 b2] 3)) = wz at *
        have c3 := H7.out.2.1.c0
        have c4 := H7.out.2.1.c1
        go_wp2
        go_region
        generalize (if a3 < x then x else a3) = b3 at *
        generalize (if a4 < y then y else a4) = b4 at *
        have H8 : Hid (PrAt ((wz.alloc (.cells #[.int .i64 b3, .int .i64 b4] 3)).drew) wo.heap.size b1 b2 ∧ PrAt ((wz.alloc (.cells #[.int .i64 b3, .int .i64 b4] 3)).drew) wz.heap.size b3 b4 ∧ Below w.heap.size w ((wz.alloc (.cells #[.int .i64 b3, .int .i64 b4] 3)).drew)) :=
          hid ⟨H7.out.1.below (below_drew' ((Below.refl _ _).alloc (Nat.le_refl _) _)), PrAt.made wz 1 b3 b4 3, below_drew' (H7.out.2.2.alloc H7.out.2.2.size _)⟩
        clear c3 c4 H7
        go_wp2
        go_roundw
        case rel => exact ⟨k + 1, wo.heap.size, wz.heap.size, by omega, by go_num, rfl, rfl, by rw [HT1.out, HT2.out, HT3.out, HT4.out]; exact H8⟩
        case measure => simp [intOf]; omega
    · obtain rfl : k = 13 := by omega
      have hdi : decide (((13 : Nat) : Int) < 13) = false := by simp
      have HN : Hid (hull n = whN (inZ (loZ zf (bl n.testBit 13)) (hiZ zf (bl n.testBit 13)) (loZ zt (bl n.testBit 13)) (hiZ zt (bl n.testBit 13)))) := hid rfl
      generalize loZ zf (bl n.testBit 13) = a1 at *
      generalize loZ zt (bl n.testBit 13) = a2 at *
      generalize hiZ zf (bl n.testBit 13) = a3 at *
      generalize hiZ zt (bl n.testBit 13) = a4 at *
      go_wp2
      go_loopw [8, 9] (fun acc v wr => ∃ j : Nat, j ≤ 13 ∧ v = .int .i64 j ∧ acc = .int .i64 ((whF (inZ a1 a3 a2 a4) j : Nat) : Int) ∧ Hid (PrAt wr g1 a1 a2 ∧ PrAt wr g2 a3 a4 ∧ Below w.heap.size w wr)) (fun _ v _ => 13 - (intOf v).toNat)
      case atStart => exact ⟨0, by omega, rfl, rfl, HI⟩
      case round =>
        obtain ⟨j, hj, rfl, rfl, HJ⟩ := hrel
        clear HI
        obtain ⟨wi, rfl⟩ : ∃ wi : World, wi = wr := ⟨_, rfl⟩
        by_cases j13 : j < 13
        · have hdj : decide ((j : Int) < 13) = true := by simp; omega
          have i1 := zf_at j13
          have i2 := zt_at j13
          have z1 := zf_in j13
          have z2 := zt_in j13
          have HP : Hid (inZ a1 a3 a2 a4 j = (btw a1 (zf j) a3 && btw a2 (zt j) a4)) := hid rfl
          have HH := hid (show inZ a1 a3 a2 a4 j = true → _ from fun h => (i64_or _ _ (whF_lt (p := inZ a1 a3 a2 a4) hj) (pow_lt j13)).trans (congrArg _ (whF_hit h).symm))
          have HM := hid (show inZ a1 a3 a2 a4 j = false → _ from fun h => whF_miss h)
          have HW := hid (sh_wrap j13)
          generalize zf j = x at *
          generalize zt j = y at *
          obtain ⟨x1, x2⟩ := z1
          obtain ⟨y1, y2⟩ := z2
          have c1 : ∀ m, (wi.drewN m).cell? ⟨g1, 0, none⟩ = some (.int .i64 a1) := fun _ => HJ.out.1.c0
          have c2 : ∀ m, (wi.drewN m).cell? ⟨g1, 1, none⟩ = some (.int .i64 a2) := fun _ => HJ.out.1.c1
          have c3 : ∀ m, (wi.drewN m).cell? ⟨g2, 0, none⟩ = some (.int .i64 a3) := fun _ => HJ.out.2.1.c0
          have c4 : ∀ m, (wi.drewN m).cell? ⟨g2, 1, none⟩ = some (.int .i64 a4) := fun _ => HJ.out.2.1.c1
          have d1 := c1 0
          have d2 := c2 0
          have d3 := c3 0
          have d4 := c4 0
          have N1 : ∀ (r : Bool), btw a1 x a3 = r → ∀ w : World, Calls Tryd.prog 61 #[.int .i64 x, .int .i64 a1, .int .i64 a3] w fun e w' => e = .returned (.bool r) ∧ w' = w := fun r h w => by
            rw [← h]
            exact (l1In_any x a1 a3 w).mono fun _ _ ⟨a, b⟩ => ⟨a, b.symm⟩
          have N2 : ∀ (r : Bool), btw a2 y a4 = r → ∀ w : World, Calls Tryd.prog 61 #[.int .i64 y, .int .i64 a2, .int .i64 a4] w fun e w' => e = .returned (.bool r) ∧ w' = w := fun r h w => by
            rw [← h]
            exact (l1In_any y a2 a4 w).mono fun _ _ ⟨a, b⟩ => ⟨a, b.symm⟩
          cases q1 : btw a1 x a3
          · have H1 := hid (N1 _ q1)
            have HF2 := hid (HM.out (by rw [HP.out, q1]; rfl))
            clear q1 HH HM HP N1 N2
            go_wp2
            go_quiet (first | (go_at_call 61; with_reducible exact Calls.quiet_of_same (H1.out _)))
            go_wp2
            go_roundw
            case rel => exact ⟨j + 1, by omega, by go_num, by rw [HF2.out], hid (by exact ⟨⟨HJ.out.1.c0, HJ.out.1.c1, HJ.out.1.lt⟩, ⟨HJ.out.2.1.c0, HJ.out.2.1.c1, HJ.out.2.1.lt⟩, below_drewN' HJ.out.2.2 _⟩)⟩
            case measure => simp [intOf]; omega
          · have H1 := hid (N1 _ q1)
            cases q2 : btw a2 y a4
            · have H2 := hid (N2 _ q2)
              have HF2 := hid (HM.out (by rw [HP.out, q1, q2]; rfl))
              clear q1 q2 HH HM HP N1 N2
              go_wp2
              go_quiet (first | (go_at_call 61; with_reducible exact Calls.quiet_of_same (H1.out _)) | (go_at_call 61; with_reducible exact Calls.quiet_of_same (H2.out _)))
              go_wp2
              go_roundw
              case rel => exact ⟨j + 1, by omega, by go_num, by rw [HF2.out], hid (by exact ⟨⟨HJ.out.1.c0, HJ.out.1.c1, HJ.out.1.lt⟩, ⟨HJ.out.2.1.c0, HJ.out.2.1.c1, HJ.out.2.1.lt⟩, below_drewN' HJ.out.2.2 _⟩)⟩
              case measure => simp [intOf]; omega
            · have H2 := hid (N2 _ q2)
              have HF2 := hid (HH.out (by rw [HP.out, q1, q2]; rfl))
              clear q1 q2 HH HM HP N1 N2
              go_wp2
              go_quiet (first | (go_at_call 61; with_reducible exact Calls.quiet_of_same (H1.out _)) | (go_at_call 61; with_reducible exact Calls.quiet_of_same (H2.out _)))
              go_wp2
              go_roundw
              case rel => exact ⟨j + 1, by omega, by go_num, ret_val (by rw [HW.out]; exact HF2.out), hid (by exact ⟨⟨HJ.out.1.c0, HJ.out.1.c1, HJ.out.1.lt⟩, ⟨HJ.out.2.1.c0, HJ.out.2.1.c1, HJ.out.2.1.lt⟩, below_drewN' HJ.out.2.2 _⟩)⟩
              case measure => simp [intOf]; omega
        · obtain rfl : j = 13 := by omega
          have hdj : decide (((13 : Nat) : Int) < 13) = false := by simp
          go_wp2
          go_ret
          exact ⟨ret_int (by rw [HN.out]; rfl), HJ.out.2.2⟩
end Go.Proofs.YtnogdjmciekieabDoor.C
