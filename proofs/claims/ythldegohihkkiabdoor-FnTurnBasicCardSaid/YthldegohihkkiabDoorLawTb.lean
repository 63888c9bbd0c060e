/- The law of turned and mirrored basic relations. -/
import Derived.Test.YthldegohihkkiabDoorDraw
import Derived.Test.YthldegohihkkiabDoorTurn
import Derived.Test.YthldegohihkkiabDoorEndsX
import Derived.Deep.RegionHeld3
namespace Go.Proofs.YthldegohihkkiabDoor.C
open Go.RowKit
set_option linter.unusedVariables false
set_option linter.unusedSimpArgs false
theorem l2One_any (B q m : Nat) (w : World) (h : Rd B w q m) (hm : m ≤ 1000000000) :
    Calls Tryd.prog 99 #[.pointer (some ⟨q, 0, none⟩)] w (DrewS (fun v => v.size ≤ 2) B q (m + 2) w) := by
  have HS := AllLt.start w; go_enter Tryd.func99, Tryd.ntmps99
  go_wp2_with fail
  refine (pick_any B q m _ _ h (by omega) (by omega) (by omega)).mono ?_
  rintro e w1 ⟨k, hk, rfl, hR, hW⟩
  by_cases hk0 : k = 0
  · subst hk0
    go_wp2_with fail
    refine (of_new B q (m + 1) _ (fun v => v.size ≤ 2) [⟨#[]⟩, ⟨#[120]⟩, ⟨#[98, 109]⟩, ⟨#[69]⟩] 4 _ _ hR (by simp) rfl (by omega) (by omega) (by omega) (by decide)).mono ?_
    rintro e w2 ⟨v, hv, rfl, hR2, hW2⟩
    have HF : Hid (∀ e w', e = .returned (.string v) → w2 = w' → DrewS (fun v => v.size ≤ 2) B q (m + 2) w e w') := hid fun e w' c1 c2 => DrewS.of (good := fun v => v.size ≤ 2) (hW.trans hW2) hR2 hv c1 c2
    clear hR hW hR2 hW2 h hv
    go_wp2
    go_ret
    exact HF.out _ _ rfl rfl
  · have b0 : ((k : Int) == 0) = false := by simp; omega
    go_wp2_with fail
    refine (pick_any B q (m + 1) _ _ hR (by omega) (by omega) (by omega)).mono ?_
    rintro e w2 ⟨j, hj, rfl, hR2, hW2⟩
    have HF : Hid (∀ e w', e = .returned (.string (ltr j)) → w2 = w' → DrewS (fun v => v.size ≤ 2) B q (m + 2) w e w') := hid fun e w' c1 c2 => DrewS.of (good := fun v => v.size ≤ 2) (hW.trans hW2) hR2 (show (ltr j).size ≤ 2 from (by decide : (1 : Nat) ≤ 2)) c1 c2
    have HJ : j < 13 := by omega
    clear hR hW hR2 hW2 h
    go_wp2_with (first | (go_at_call 78; (with_reducible refine (l2Letter_any j HJ _).mono ?_); rintro e w' ⟨rfl, rfl⟩))
    go_ret
    exact HF.out _ _ rfl rfl
theorem DrawTurnBasic_any (a : Option Addr) (len cap : Nat) (zs : List Int) (w : World) (h : IsRow .u8 w a len cap zs) :
    Calls Tryd.prog 53 #[.slice a len cap] w (OutS (fun v => v.size ≤ 2) w) := by
  have HS := AllLt.start w; go_enter Tryd.func53, Tryd.ntmps53
  go_wp2_with fail
  refine (l14Open_any _ _ _ _ _ h).mono ?_
  rintro e w1 ⟨rfl, hR, hb⟩
  go_wp2_with fail
  refine (l2One_any _ _ 0 _ hR (by omega)).mono ?_
  rintro e w2 ⟨v, hv, rfl, hR2, hW⟩
  have HF : Hid (∀ e w', e = .returned (.string v) → w2 = w' → OutS (fun v => v.size ≤ 2) w e w') := hid fun e w' c1 c2 => OutS.of (good := fun v => v.size ≤ 2) hv hb hW c1 c2
  clear hR hb hR2 hW h hv
  go_wp2
  go_ret
  exact HF.out _ _ rfl rfl
theorem tb_facts {k : Nat} (hk : k < 13) : tuS (ltr k) = ltr (12 - k) ∧ miS (ltr k) = ltr (miN k) ∧ zfI (lixI (ltr k)) = zf k ∧ ztI (lixI (ltr k)) = zt k ∧ ltrI (batI (zf k) (zt k)) = ltr k ∧ ltrI (batI (4 - zt k) (4 - zf k)) = ltr (miN k) ∧
    miN (12 - k) = 12 - miN k ∧ miN (miN k) = k := by
  rcases nat13 hk with rfl | rfl | rfl | rfl | rfl | rfl | rfl | rfl | rfl | rfl | rfl | rfl | rfl <;> decide +kernel
theorem tb_ends {k : Nat} (hk : k < 13) : tpp (eoF k 0) = eoF (12 - k) 0 ∧ tpp (eoF k 2) = eoF (12 - k) 1 ∧ tpp (eoF k 1) = eoF (12 - k) 2 ∧ tpp (eoF k 3) = eoF (12 - k) 3 := by
  rcases nat13 hk with rfl | rfl | rfl | rfl | rfl | rfl | rfl | rfl | rfl | rfl | rfl | rfl | rfl <;> decide +kernel
theorem tb_zone {k : Nat} (hk : k < 13) : 0 ≤ zf k ∧ zf k ≤ 4 ∧ 0 ≤ zt k ∧ zt k ≤ 4 := by
  rcases nat13 hk with rfl | rfl | rfl | rfl | rfl | rfl | rfl | rfl | rfl | rfl | rfl | rfl | rfl <;> decide
theorem ltr_ne (k : Nat) : (ltr k).toList.isEmpty = false := by rw [ByteArray.toList_eq]; rfl
set_option maxHeartbeats 8000000 in
set_option maxRecDepth 100000 in
theorem walk_FnTurnBasic (a0 : Option Addr) (len0 cap0 : Nat) (z0 : List Int) (w : World) (w0 : IsRow .u8 w a0 len0 cap0 z0) (hT : TO w) (hB : TB w) :
    Calls Tryd.prog 10 #[.slice a0 len0 cap0] w fun e w' => e = .returned (.bool true) ∧ Below w.heap.size w w' := by
  have HO0 := hid hT
  have HT0 := hid hB
  clear hT hB
  by_cases hl : len0 ≤ 1048576
  · have hd : decide ((1048576 : Int) < (len0 : Int)) = false := by simp; omega
    have HS := AllLt.start w; go_enter Tryd.func10, Tryd.ntmps10
    go_wp2_with fail
    refine (DrawTurnBasic_any _ _ _ _ _ w0).mono ?_
    rintro e wa ⟨v, hv, rfl, hb⟩
    have HT := hid (HT0.out.below hb)
    have HO := hid (HO0.out.below hb)
    have Hb := hid hb
    have hvs : Hid (v.size ≤ 9223372036854775807) := hid (by omega)
    clear w0 hb HS HT0 HO0 hv
    rcases lix_cases v with ⟨k, hk, rfl, hr⟩ | ⟨he, hr⟩
    · obtain ⟨e1, e2, e3, e4, e5, e6, e7, e8⟩ := tb_facts hk
      obtain ⟨d1, d2, _, _, _, _, _, _⟩ := tb_facts (show 12 - k < 13 by omega)
      obtain ⟨f1, f2, _, _, _, _, _, _⟩ := tb_facts (miN_lt hk)
      rw [show 12 - (12 - k) = k by omega] at d1
      rw [e7] at d2
      rw [e8] at f2
      have E1 := hid e1
      have E2 := hid e2
      have E3 := hid e3
      have E4 := hid e4
      have E5 := hid e5
      obtain ⟨zz1, zz2, zz3, zz4⟩ := tb_zone hk
      have E6 : Hid (ltrI (batI (IntKind.i64.wrap (4 - zt k)) (IntKind.i64.wrap (4 - zf k))) = ltr (miN k)) := hid (by rw [IntWalk.i64_in _ (by omega), IntWalk.i64_in _ (by omega)]; exact e6)
      have D1 := hid d1
      have D2 := hid d2
      have F1 := hid f1
      have F2 := hid f2
      have hna := ltr_ne k
      have hnt := ltr_ne (12 - k)
      have hnm := ltr_ne (miN k)
      have s1 := same_t (Eq.refl (ltr k))
      have s2 := same_t (Eq.refl (ltr (12 - k)))
      have s3 := same_t (Eq.refl (ltr (miN k)))
      have s4 := same_t (Eq.refl (ltr (12 - miN k)))
      have HE1 := hid (fun w h => iEndsOf_hit (ltr k) k hk (lix_ltr hk) w h)
      have HE2 := hid (fun w h => iEndsOf_hit (ltr (12 - k)) (12 - k) (by omega) (lix_ltr (by omega)) w h)
      obtain ⟨g0, g1, g2, g3⟩ := tb_ends hk
      have G0 := hid g0
      have G1 := hid g1
      have G2 := hid g2
      have G3 := hid g3
      clear e1 e2 e3 e4 e5 e6 e7 e8 d1 d2 f1 f2 g0 g1 g2 g3 hr
      have q0 : eoF k 0 = eoF k 0 := rfl
      generalize eoF k = ek at *
      generalize eoF (12 - k) = et at *
      generalize ltr (12 - miN k) = lx at *
      generalize ltr (miN k) = lm at *
      generalize ltr (12 - k) = lt' at *
      generalize ltr k = la at *
      generalize zf k = zfk at *
      generalize zt k = ztk at *
      clear q0 hk
      go_wp2_with (first | (go_at_call 41; (with_reducible refine (iTurnBasic_any _ _ (HT.out.below (by (repeat' (first | (with_reducible exact Below.refl _ _) | (with_reducible refine Below.setCell ?_ ?_ _) | (with_reducible refine below_drewN' ?_ _) | (with_reducible refine below_drew' ?_) | (with_reducible refine Below.alloc ?_ ?_ _) | (with_reducible assumption) | go_size))))).mono ?_); rintro e w' ⟨rfl, hb⟩; (first | rw [E1.out] | rw [D1.out] | rw [F1.out]); obtain ⟨HB, hz0, hz, hc, hf⟩ := bst (w0 := wa) (by (repeat' (first | (with_reducible exact Below.refl _ _) | (with_reducible refine Below.setCell ?_ ?_ _) | (with_reducible refine below_drewN' ?_ _) | (with_reducible refine below_drew' ?_) | (with_reducible refine Below.alloc ?_ ?_ _) | (with_reducible assumption) | go_size))) hb; clear hb hz hc hf hz0) | (go_at_call 42; (with_reducible refine (iMirrorBasic_any _ _ (HT.out.below (by (repeat' (first | (with_reducible exact Below.refl _ _) | (with_reducible refine Below.setCell ?_ ?_ _) | (with_reducible refine below_drewN' ?_ _) | (with_reducible refine below_drew' ?_) | (with_reducible refine Below.alloc ?_ ?_ _) | (with_reducible assumption) | go_size))))).mono ?_); rintro e w' ⟨rfl, hb⟩; (first | rw [E2.out] | rw [F2.out] | rw [D2.out]); obtain ⟨HB, hz0, hz, hc, hf⟩ := bst (w0 := wa) (by (repeat' (first | (with_reducible exact Below.refl _ _) | (with_reducible refine Below.setCell ?_ ?_ _) | (with_reducible refine below_drewN' ?_ _) | (with_reducible refine below_drew' ?_) | (with_reducible refine Below.alloc ?_ ?_ _) | (with_reducible assumption) | go_size))) hb; clear hb hz hc hf hz0) | (go_at_call 54; (with_reducible refine (sTurnBasic_any _ _ hvs.out).mono ?_); rintro e w' ⟨rfl, rfl⟩; rw [E1.out]) | (go_at_call 55; (with_reducible refine (sMirrorBasic_any _ _ hvs.out).mono ?_); rintro e w' ⟨rfl, nn, rfl⟩; rw [E2.out]) | (go_at_call 56; (with_reducible refine (iZonesOf_any _ _ (HT.out.below (by (repeat' (first | (with_reducible exact Below.refl _ _) | (with_reducible refine Below.setCell ?_ ?_ _) | (with_reducible refine below_drewN' ?_ _) | (with_reducible refine below_drew' ?_) | (with_reducible refine Below.alloc ?_ ?_ _) | (with_reducible assumption) | go_size))))).mono ?_); rintro e w' ⟨rfl, hb⟩; rw [E3.out, E4.out]; obtain ⟨HB, hz0, hz, hc, hf⟩ := bst (w0 := wa) (by (repeat' (first | (with_reducible exact Below.refl _ _) | (with_reducible refine Below.setCell ?_ ?_ _) | (with_reducible refine below_drewN' ?_ _) | (with_reducible refine below_drew' ?_) | (with_reducible refine Below.alloc ?_ ?_ _) | (with_reducible assumption) | go_size))) hb; clear hb hz hc hf hz0))
      (refine (HE1.out _ (HT.out.below (by (repeat' (first | (with_reducible exact Below.refl _ _) | (with_reducible refine Below.setCell ?_ ?_ _) | (with_reducible refine below_drewN' ?_ _) | (with_reducible refine below_drew' ?_) | (with_reducible refine Below.alloc ?_ ?_ _) | (with_reducible assumption) | go_size))))).mono ?_)
      rintro e w1 ⟨v1, rfl, h1⟩
      obtain ⟨hb1, h1⟩ := h1.cases
      have HB1 : Below wa.heap.size wa w1 := (bst (w0 := wa) (by (repeat' (first | (with_reducible exact Below.refl _ _) | (with_reducible refine Below.setCell ?_ ?_ _) | (with_reducible refine below_drewN' ?_ _) | (with_reducible refine below_drew' ?_) | (with_reducible refine Below.alloc ?_ ?_ _) | (with_reducible assumption) | go_size))) hb1).1
      rcases h1 with ⟨h, _⟩ | ⟨_, b1, c1, rfl, _, hr1, _⟩
      · exact absurd h (by omega)
      have HR1 := hid hr1
      clear hr1 hb1
      go_wp2_with fail
      (refine (HE2.out _ (HT.out.below (by (repeat' (first | (with_reducible exact Below.refl _ _) | (with_reducible refine Below.setCell ?_ ?_ _) | (with_reducible refine below_drewN' ?_ _) | (with_reducible refine below_drew' ?_) | (with_reducible refine Below.alloc ?_ ?_ _) | (with_reducible assumption) | go_size))))).mono ?_)
      rintro e w2 ⟨v2, rfl, h2⟩
      obtain ⟨hb2, h2⟩ := h2.cases
      have HB2 : Below wa.heap.size wa w2 := (bst (w0 := wa) (by (repeat' (first | (with_reducible exact Below.refl _ _) | (with_reducible refine Below.setCell ?_ ?_ _) | (with_reducible refine below_drewN' ?_ _) | (with_reducible refine below_drew' ?_) | (with_reducible refine Below.alloc ?_ ?_ _) | (with_reducible assumption) | go_size))) hb2).1
      rcases h2 with ⟨h, _⟩ | ⟨_, b2, c2, rfl, _, hr2, _⟩
      · exact absurd h (by omega)
      have HR1 := hid (HR1.out.below hb2)
      have HR2 := hid hr2
      have HB2' := hid HB2
      have HT2 := hid (HT.out.below HB2)
      have HO2 := hid (HO.out.below HB2)
      clear hr2 hb2 HB1 HB2 HT HO HE1 HE2
      try clear HB
      have l1 := HR1.out.2.1
      have l2 := HR2.out.2.1
      have x0 := HR1.out.2.2 0 (by omega)
      have x1 := HR1.out.2.2 1 (by omega)
      have x2 := HR1.out.2.2 2 (by omega)
      have x3 := HR1.out.2.2 3 (by omega)
      have y0 := HR2.out.2.2 0 (by omega)
      have y1 := HR2.out.2.2 1 (by omega)
      have y2 := HR2.out.2.2 2 (by omega)
      have y3 := HR2.out.2.2 3 (by omega)
      clear HR1 HR2
      go_wp2_with fail
      simp only [List.append_eq, List.cons_append, List.nil_append]
      go_region_held3 (fun wx => wx.cell? ⟨b1, 0, none⟩ = some (.int .i64 (ek 0)) ∧ wx.cell? ⟨b1, 1, none⟩ = some (.int .i64 (ek 1)) ∧ wx.cell? ⟨b1, 2, none⟩ = some (.int .i64 (ek 2)) ∧ wx.cell? ⟨b1, 3, none⟩ = some (.int .i64 (ek 3)) ∧ wx.cell? ⟨b2, 0, none⟩ = some (.int .i64 (et 0)) ∧ wx.cell? ⟨b2, 1, none⟩ = some (.int .i64 (et 1)) ∧ wx.cell? ⟨b2, 2, none⟩ = some (.int .i64 (et 2)) ∧ wx.cell? ⟨b2, 3, none⟩ = some (.int .i64 (et 3))) (exact ⟨(Below.cell (B := w2.heap.size) (w := w2) (p := ⟨b1, 0, none⟩) (by (repeat' (first | (with_reducible exact Below.refl _ _) | (with_reducible refine Below.setCell ?_ ?_ _) | (with_reducible refine below_drewN' ?_ _) | (with_reducible refine below_drew' ?_) | (with_reducible refine Below.alloc ?_ ?_ _) | (with_reducible assumption) | go_size))) l1).trans x0, (Below.cell (B := w2.heap.size) (w := w2) (p := ⟨b1, 1, none⟩) (by (repeat' (first | (with_reducible exact Below.refl _ _) | (with_reducible refine Below.setCell ?_ ?_ _) | (with_reducible refine below_drewN' ?_ _) | (with_reducible refine below_drew' ?_) | (with_reducible refine Below.alloc ?_ ?_ _) | (with_reducible assumption) | go_size))) l1).trans x1, (Below.cell (B := w2.heap.size) (w := w2) (p := ⟨b1, 2, none⟩) (by (repeat' (first | (with_reducible exact Below.refl _ _) | (with_reducible refine Below.setCell ?_ ?_ _) | (with_reducible refine below_drewN' ?_ _) | (with_reducible refine below_drew' ?_) | (with_reducible refine Below.alloc ?_ ?_ _) | (with_reducible assumption) | go_size))) l1).trans x2, (Below.cell (B := w2.heap.size) (w := w2) (p := ⟨b1, 3, none⟩) (by (repeat' (first | (with_reducible exact Below.refl _ _) | (with_reducible refine Below.setCell ?_ ?_ _) | (with_reducible refine below_drewN' ?_ _) | (with_reducible refine below_drew' ?_) | (with_reducible refine Below.alloc ?_ ?_ _) | (with_reducible assumption) | go_size))) l1).trans x3, (Below.cell (B := w2.heap.size) (w := w2) (p := ⟨b2, 0, none⟩) (by (repeat' (first | (with_reducible exact Below.refl _ _) | (with_reducible refine Below.setCell ?_ ?_ _) | (with_reducible refine below_drewN' ?_ _) | (with_reducible refine below_drew' ?_) | (with_reducible refine Below.alloc ?_ ?_ _) | (with_reducible assumption) | go_size))) l2).trans y0, (Below.cell (B := w2.heap.size) (w := w2) (p := ⟨b2, 1, none⟩) (by (repeat' (first | (with_reducible exact Below.refl _ _) | (with_reducible refine Below.setCell ?_ ?_ _) | (with_reducible refine below_drewN' ?_ _) | (with_reducible refine below_drew' ?_) | (with_reducible refine Below.alloc ?_ ?_ _) | (with_reducible assumption) | go_size))) l2).trans y1, (Below.cell (B := w2.heap.size) (w := w2) (p := ⟨b2, 2, none⟩) (by (repeat' (first | (with_reducible exact Below.refl _ _) | (with_reducible refine Below.setCell ?_ ?_ _) | (with_reducible refine below_drewN' ?_ _) | (with_reducible refine below_drew' ?_) | (with_reducible refine Below.alloc ?_ ?_ _) | (with_reducible assumption) | go_size))) l2).trans y2, (Below.cell (B := w2.heap.size) (w := w2) (p := ⟨b2, 3, none⟩) (by (repeat' (first | (with_reducible exact Below.refl _ _) | (with_reducible refine Below.setCell ?_ ?_ _) | (with_reducible refine below_drewN' ?_ _) | (with_reducible refine below_drew' ?_) | (with_reducible refine Below.alloc ?_ ?_ _) | (with_reducible assumption) | go_size))) l2).trans y3⟩) (first | (go_at_call 41; (with_reducible refine (iTurnBasic_any _ _ (HT2.out.below (by (repeat' (first | (with_reducible exact Below.refl _ _) | (with_reducible refine Below.setCell ?_ ?_ _) | (with_reducible refine below_drewN' ?_ _) | (with_reducible refine below_drew' ?_) | (with_reducible refine Below.alloc ?_ ?_ _) | (with_reducible assumption) | go_size))))).mono ?_); rintro e w' ⟨rfl, hb⟩; (first | rw [E1.out] | rw [D1.out] | rw [F1.out]); have HB : Below w2.heap.size w2 w' := (bst (w0 := w2) (by (repeat' (first | (with_reducible exact Below.refl _ _) | (with_reducible refine Below.setCell ?_ ?_ _) | (with_reducible refine below_drewN' ?_ _) | (with_reducible refine below_drew' ?_) | (with_reducible refine Below.alloc ?_ ?_ _) | (with_reducible assumption) | go_size))) hb).1; clear hb) | (go_at_call 42; (with_reducible refine (iMirrorBasic_any _ _ (HT2.out.below (by (repeat' (first | (with_reducible exact Below.refl _ _) | (with_reducible refine Below.setCell ?_ ?_ _) | (with_reducible refine below_drewN' ?_ _) | (with_reducible refine below_drew' ?_) | (with_reducible refine Below.alloc ?_ ?_ _) | (with_reducible assumption) | go_size))))).mono ?_); rintro e w' ⟨rfl, hb⟩; (first | rw [E2.out] | rw [F2.out] | rw [D2.out]); have HB : Below w2.heap.size w2 w' := (bst (w0 := w2) (by (repeat' (first | (with_reducible exact Below.refl _ _) | (with_reducible refine Below.setCell ?_ ?_ _) | (with_reducible refine below_drewN' ?_ _) | (with_reducible refine below_drew' ?_) | (with_reducible refine Below.alloc ?_ ?_ _) | (with_reducible assumption) | go_size))) hb).1; clear hb) | (go_at_call 58; (with_reducible refine (iBasicAt_any _ _ _ (HT2.out.below (by (repeat' (first | (with_reducible exact Below.refl _ _) | (with_reducible refine Below.setCell ?_ ?_ _) | (with_reducible refine below_drewN' ?_ _) | (with_reducible refine below_drew' ?_) | (with_reducible refine Below.alloc ?_ ?_ _) | (with_reducible assumption) | go_size))))).mono ?_); rintro e w' ⟨rfl, hb⟩; (first | rw [E5.out] | rw [E6.out]); have HB : Below w2.heap.size w2 w' := (bst (w0 := w2) (by (repeat' (first | (with_reducible exact Below.refl _ _) | (with_reducible refine Below.setCell ?_ ?_ _) | (with_reducible refine below_drewN' ?_ _) | (with_reducible refine below_drew' ?_) | (with_reducible refine Below.alloc ?_ ?_ _) | (with_reducible assumption) | go_size))) hb).1; clear hb) | (go_at_call 59; (with_reducible refine (iTurnPoint_any _ _ (HO2.out.below (by (repeat' (first | (with_reducible exact Below.refl _ _) | (with_reducible refine Below.setCell ?_ ?_ _) | (with_reducible refine below_drewN' ?_ _) | (with_reducible refine below_drew' ?_) | (with_reducible refine Below.alloc ?_ ?_ _) | (with_reducible assumption) | go_size))))).mono ?_); rintro e w' ⟨rfl, hb⟩; (first | rw [G0.out] | rw [G1.out] | rw [G2.out] | rw [G3.out]); have HB : Below w2.heap.size w2 w' := (bst (w0 := w2) (by (repeat' (first | (with_reducible exact Below.refl _ _) | (with_reducible refine Below.setCell ?_ ?_ _) | (with_reducible refine below_drewN' ?_ _) | (with_reducible refine below_drew' ?_) | (with_reducible refine Below.alloc ?_ ?_ _) | (with_reducible assumption) | go_size))) hb).1; clear hb) | fail)
      all_goals
        go_wp2
        go_ret
        exact ⟨rfl, Hb.out.trans ((HB2'.out.trans (Below.mono (by (repeat' (first | (with_reducible exact Below.refl _ _) | (with_reducible refine Below.setCell ?_ ?_ _) | (with_reducible refine below_drewN' ?_ _) | (with_reducible refine below_drew' ?_) | (with_reducible refine Below.alloc ?_ ?_ _) | (with_reducible assumption) | go_size))) HB2'.out.size)).mono Hb.out.size)⟩
    · have E1 := hid (tuS_miss hr)
      have E2 := hid (miS_miss hr)
      clear he hr
      go_wp2_with (first | (go_at_call 41; (with_reducible refine (iTurnBasic_any _ _ (HT.out.below (by (repeat' (first | (with_reducible exact Below.refl _ _) | (with_reducible refine Below.setCell ?_ ?_ _) | (with_reducible refine below_drewN' ?_ _) | (with_reducible refine below_drew' ?_) | (with_reducible refine Below.alloc ?_ ?_ _) | (with_reducible assumption) | go_size))))).mono ?_); rintro e w' ⟨rfl, hb⟩; rw [E1.out]; obtain ⟨HB, hz0, hz, hc, hf⟩ := bst (w0 := wa) (by (repeat' (first | (with_reducible exact Below.refl _ _) | (with_reducible refine Below.setCell ?_ ?_ _) | (with_reducible refine below_drewN' ?_ _) | (with_reducible refine below_drew' ?_) | (with_reducible refine Below.alloc ?_ ?_ _) | (with_reducible assumption) | go_size))) hb; clear hb hz hc hf hz0) | (go_at_call 42; (with_reducible refine (iMirrorBasic_any _ _ (HT.out.below (by (repeat' (first | (with_reducible exact Below.refl _ _) | (with_reducible refine Below.setCell ?_ ?_ _) | (with_reducible refine below_drewN' ?_ _) | (with_reducible refine below_drew' ?_) | (with_reducible refine Below.alloc ?_ ?_ _) | (with_reducible assumption) | go_size))))).mono ?_); rintro e w' ⟨rfl, hb⟩; rw [E2.out]; obtain ⟨HB, hz0, hz, hc, hf⟩ := bst (w0 := wa) (by (repeat' (first | (with_reducible exact Below.refl _ _) | (with_reducible refine Below.setCell ?_ ?_ _) | (with_reducible refine below_drewN' ?_ _) | (with_reducible refine below_drew' ?_) | (with_reducible refine Below.alloc ?_ ?_ _) | (with_reducible assumption) | go_size))) hb; clear hb hz hc hf hz0) | (go_at_call 54; (with_reducible refine (sTurnBasic_any _ _ hvs.out).mono ?_); rintro e w' ⟨rfl, rfl⟩; rw [E1.out]) | (go_at_call 55; (with_reducible refine (sMirrorBasic_any _ _ hvs.out).mono ?_); rintro e w' ⟨rfl, nn, rfl⟩; rw [E2.out]))
      go_ret
      exact ⟨rfl, Hb.out.trans (Below.mono (by (repeat' (first | (with_reducible exact Below.refl _ _) | (with_reducible refine Below.setCell ?_ ?_ _) | (with_reducible refine below_drewN' ?_ _) | (with_reducible refine below_drew' ?_) | (with_reducible refine Below.alloc ?_ ?_ _) | (with_reducible assumption) | go_size))) Hb.out.size)⟩
  · have hd : decide ((1048576 : Int) < (len0 : Int)) = true := by simp; omega
    have HS := AllLt.start w; go_enter Tryd.func10, Tryd.ntmps10
    go_wp2
    go_ret
    exact ⟨rfl, Below.refl _ _⟩
end Go.Proofs.YthldegohihkkiabDoor.C
