/- Chapter 4: relations and the orders of ends: the model's words, the program's exported functions. -/
import Derived.Test.YtmdgkhebefnfeaaDoorEos
import Derived.Test.YtmdgkhebefnfeaaDoorCmpS
import Derived.Test.YtmdgkhebefnfeaaDoorEndsX
namespace Go.Proofs.YtmdgkhebefnfeaaDoor.C
open Go.RowKit
set_option linter.unusedVariables false
set_option linter.unusedSimpArgs false
theorem F4.alloc0 (w : World) (t : TypeId) : F4 (w.alloc (.cells #[.int .i64 0, .int .i64 0, .int .i64 0, .int .i64 0] t)) w.heap.size (esA []) :=
  ⟨four (by simp [go_sem]; rfl) (by simp [go_sem]; rfl) (by simp [go_sem]; rfl) (by simp [go_sem]; rfl), fun i => by simp [go_sem], by rw [World.size_alloc]; omega⟩
set_option maxHeartbeats 4000000 in
set_option maxRecDepth 100000 in
theorem l4Orders_any (n : Nat) (hn : n < 8192) (w : World) :
    Calls Tryd.prog 73 #[.int .i64 n] w fun e w' => e = .returned (.slice (some ⟨w.heap.size, 0, none⟩) 4 4) ∧ F4 w' w.heap.size (esA (bl n.testBit 13)) ∧ Below w.heap.size w w' := by
  have H0 := hid (F4.alloc0 w 3)
  generalize hO : w.heap.size = O at *
  have hOle : Hid (w.heap.size ≤ O) := hid (by omega)
  have HB0 : Hid (Below O w (w.alloc (.cells #[.int .i64 0, .int .i64 0, .int .i64 0, .int .i64 0] 3))) := hid ((Below.refl O w).alloc (by omega) _)
  have HS := AllLt.start w; go_enter Tryd.func73, Tryd.ntmps73
  go_wp2
  (try rw [hO])
  generalize (w.alloc (.cells #[.int .i64 0, .int .i64 0, .int .i64 0, .int .i64 0] 3)) = W0 at *
  go_loopw [4] (fun i wr => ∃ k : Nat, k ≤ 13 ∧ i = .int .i64 k ∧ Hid (F4 wr O (esA (bl n.testBit k)) ∧ Below O w wr)) (fun i _ => 13 - (intOf i).toNat)
  case atStart => exact ⟨0, by omega, rfl, hid ⟨H0.out, HB0.out⟩⟩
  case round =>
    obtain ⟨k, hk, rfl, HI⟩ := hrel
    clear HS H0 HB0
    obtain ⟨wo, rfl⟩ : ∃ wo : World, wo = wr := ⟨_, rfl⟩
    by_cases h13 : k < 13
    · have hdi : decide ((k : Int) < 13) = true := by simp; omega
      go_wp2_with (first | (go_at_call 125; (with_reducible refine (l2Ends_any k h13 _).mono ?_); rintro e w2 ⟨v, rfl, hv⟩))
      obtain ⟨hb2, hv⟩ := hv.cases
      obtain ⟨b, cap, rfl, hlo, hrow, _⟩ : ∃ b cap, v = .slice (some ⟨b, 0, none⟩) 4 cap ∧ wo.heap.size ≤ b ∧ RowAt w2 b cap 4 (eoF k) ∧ True := by
        rcases hv with ⟨h, _⟩ | ⟨_, b, cap, h1, h2, h3, _⟩
        · omega
        · exact ⟨b, cap, h1, h2, h3, trivial⟩
      have hbO : O < b := Nat.lt_of_lt_of_le HI.out.1.lt hlo
      have hc4 := hrow.1
      have HO := hid (eo_ord k)
      cases hq : n.testBit k
      · have HQ := hid hq
        have HF := hid (bl_miss (p := n.testBit) hq)
        have HI2 := hid (show F4 w2 O (esA (bl n.testBit k)) ∧ Below O w w2 from ⟨HI.out.1.below hb2, HI.out.2.trans (hb2.mono (Nat.le_of_lt HI.out.1.lt))⟩)
        clear hq HI hb2 hrow hv
        go_wp2
        go_loopw [6] (fun i wr => i = .int .i64 0 ∧ Hid (F4 wr O (esA (bl n.testBit k)) ∧ Below O w wr)) (fun i _ => 13 - (intOf i).toNat)
        case atStart => exact ⟨rfl, HI2⟩
        case round =>
          obtain ⟨rfl, HI3⟩ := hrel
          go_wp2_with (first | (go_at_call 126; (with_reducible refine (l3Has_any n k hn h13 _).mono ?_); rintro e w' ⟨rfl, rfl⟩; rw [HQ.out]))
          go_roundw
          case rel => exact ⟨k + 1, by omega, by go_num, by rw [HF.out]; exact HI3⟩
          case measure => simp [intOf]; omega
      · have HQ := hid hq
        have HF := hid (bl_hit (p := n.testBit) hq)
        have HT1 : Hid (∀ i, esA (bl n.testBit (k + 1)) i = bor (esA (bl n.testBit k) i) (eoF k i)) := hid fun i => by rw [HF.out, esA_snoc]
        generalize esA (bl n.testBit k) = f at *
        have HI2 := hid (show F4 w2 O (mixF f k 0) ∧ RowAt w2 b cap 4 (eoF k) ∧ Below O w w2 from ⟨(HI.out.1.below hb2).congr fun i _ => by simp [mixF], hrow, HI.out.2.trans (hb2.mono (Nat.le_of_lt HI.out.1.lt))⟩)
        clear hq HI hb2 hrow hv
        go_wp2
        go_loopw [6] (fun i wr => ∃ p : Nat, p ≤ 4 ∧ i = .int .i64 p ∧ Hid (F4 wr O (mixF f k p) ∧ RowAt wr b cap 4 (eoF k) ∧ Below O w wr)) (fun i _ => 4 - (intOf i).toNat)
        case atStart => exact ⟨0, by omega, rfl, HI2⟩
        case round =>
          obtain ⟨p, hp, rfl, HK⟩ := hrel
          clear HI2
          obtain ⟨wi, rfl⟩ : ∃ wi : World, wi = wr := ⟨_, rfl⟩
          by_cases p4 : p < 4
          · have hdp : decide ((p : Int) < 4) = true := by simp; omega
            have HM : Hid (∀ i, i < 4 → (if i = p then bor (mixF f k p p) (eoF k p) else mixF f k p i) = mixF f k (p + 1) i) := hid fun i hi => by
              unfold mixF
              by_cases e : i = p
              · subst e; simp
              · rw [if_neg e]
                by_cases e2 : i < p
                · rw [if_pos e2, if_pos (by omega)]
                · rw [if_neg e2, if_neg (by omega)]
            have cp := HK.out.1.c p p4
            have fp := HK.out.1.f p
            have ep := HK.out.2.1.2.2 p p4
            have lS := HK.out.1.lt
            have lb := HK.out.2.1.2.1
            generalize eoF k p = o at *
            generalize mixF f k p p = m at *
            have p0 : (0 : Int) ≤ (p : Int) := Int.natCast_nonneg _
            have p5 : (p : Int) < 4 := by omega
            go_wp2_with (first | (go_at_call 126; (with_reducible refine (l3Has_any n k hn h13 _).mono ?_); rintro e w' ⟨rfl, rfl⟩; rw [HQ.out]))
            go_region
            have HK2 : Hid (F4 ((wi.setCell ⟨O, p, none⟩ (.int .i64 (bor m o))).drew) O (mixF f k (p + 1)) ∧ RowAt ((wi.setCell ⟨O, p, none⟩ (.int .i64 (bor m o))).drew) b cap 4 (eoF k) ∧ Below O w ((wi.setCell ⟨O, p, none⟩ (.int .i64 (bor m o))).drew)) := hid
              ⟨(show F4 (wi.setCell ⟨O, p, none⟩ (.int .i64 (bor m o))) O (mixF f k (p + 1)) from (HK.out.1.set p4 (bor m o)).congr HM.out).below (below_drew' (Below.refl _ _)),
               ⟨hc4, (by show b < (wi.setCell ⟨O, p, none⟩ (.int .i64 (bor m o))).heap.size; rw [World.size_setCell]; exact lb), fun i hi => by
                  show (wi.setCell ⟨O, p, none⟩ (.int .i64 (bor m o))).cell? ⟨b, i, none⟩ = _
                  rw [World.cell?_of_block (w := wi) (Below.heap_setCell wi ⟨O, p, none⟩ _ b (by simp; omega))]
                  exact HK.out.2.1.2.2 i hi⟩,
               below_drew' (HK.out.2.2.setCell (p := ⟨O, p, none⟩) (Nat.le_refl _) _)⟩
            clear HK cp fp ep
            go_wp2
            go_roundw
            case rel => exact ⟨p + 1, by omega, by go_num, HK2⟩
            case measure => simp [intOf]; omega
          · obtain rfl : p = 4 := by omega
            have hdp : decide (((4 : Nat) : Int) < 4) = false := by simp
            have HQ2 := hid (show F4 wi O (esA (bl n.testBit (k + 1))) ∧ Below O w wi from ⟨HK.out.1.congr fun i hi => by rw [HT1.out, mixF, if_pos hi], HK.out.2.2⟩)
            clear HK
            go_wp2
            go_roundw
            case rel => exact ⟨k + 1, by omega, by go_num, HQ2⟩
            case measure => simp [intOf]; omega
    · obtain rfl : k = 13 := by omega
      have hdi : decide (((13 : Nat) : Int) < 13) = false := by simp
      go_wp2
      go_ret
      exact ⟨rfl, HI.out.1, HI.out.2⟩
/-- Four sets of orders in a slice that came in. -/
structure L4 (w : World) (b o : Nat) (x0 x1 x2 x3 : Int) : Prop where
  c0 : w.cell? ⟨b, o, none⟩ = some (.int .i64 x0)
  c1 : w.cell? ⟨b, o + 1, none⟩ = some (.int .i64 x1)
  c2 : w.cell? ⟨b, o + 2, none⟩ = some (.int .i64 x2)
  c3 : w.cell? ⟨b, o + 3, none⟩ = some (.int .i64 x3)
  lt : b < w.heap.size
theorem L4.below {w w' : World} {b o : Nat} {x0 x1 x2 x3 : Int} (h : L4 w b o x0 x1 x2 x3) (hb : Below w.heap.size w w') : L4 w' b o x0 x1 x2 x3 :=
  ⟨(hb.cell (p := ⟨b, o, none⟩) h.lt).trans h.c0, (hb.cell (p := ⟨b, o + 1, none⟩) h.lt).trans h.c1, (hb.cell (p := ⟨b, o + 2, none⟩) h.lt).trans h.c2, (hb.cell (p := ⟨b, o + 3, none⟩) h.lt).trans h.c3, Nat.lt_of_lt_of_le h.lt hb.size⟩
theorem L4.drewN {w : World} {b o : Nat} {x0 x1 x2 x3 : Int} (h : L4 w b o x0 x1 x2 x3) (n : Nat) : L4 (w.drewN n) b o x0 x1 x2 x3 := ⟨h.c0, h.c1, h.c2, h.c3, h.lt⟩
set_option maxHeartbeats 4000000 in
set_option maxRecDepth 100000 in
theorem l4Rel_any (b cap : Nat) (hcap : 4 ≤ cap) (x0 x1 x2 x3 : Int) (h0 : pv x0 = true) (h1 : pv x1 = true) (h2 : pv x2 = true) (h3 : pv x3 = true) (w : World) (hL : L4 w b 0 x0 x1 x2 x3) :
    Calls Tryd.prog 78 #[.slice (some ⟨b, 0, none⟩) 4 cap] w fun e w' => e = .returned (.int .i64 ((rooN x0 x1 x2 x3 : Nat) : Int)) ∧ Below w.heap.size w w' := by
  have HS := AllLt.start w; go_enter Tryd.func78, Tryd.ntmps78
  go_wp2
  go_loopw [3, 4] (fun acc v wr => ∃ j : Nat, j ≤ 13 ∧ v = .int .i64 j ∧ acc = .int .i64 ((whF (alw x0 x1 x2 x3) j : Nat) : Int) ∧ Hid (L4 wr b 0 x0 x1 x2 x3 ∧ Below w.heap.size w wr)) (fun _ v _ => 13 - (intOf v).toNat)
  case atStart => exact ⟨0, by omega, rfl, rfl, hid ⟨hL, Below.refl _ _⟩⟩
  case round =>
    obtain ⟨j, hj, rfl, rfl, HI⟩ := hrel
    clear HS
    obtain ⟨wo, rfl⟩ : ∃ wo : World, wo = wr := ⟨_, rfl⟩
    by_cases j13 : j < 13
    · have hdj : decide ((j : Int) < 13) = true := by simp; omega
      have HP : Hid (alw x0 x1 x2 x3 j = (hs x0 (eoF j 0) && hs x1 (eoF j 1) && hs x2 (eoF j 2) && hs x3 (eoF j 3))) := hid rfl
      have HH := hid (show alw x0 x1 x2 x3 j = true → _ from fun h => (i64_or _ _ (whF_lt (p := alw x0 x1 x2 x3) hj) (pow_lt j13)).trans (congrArg _ (whF_hit h).symm))
      have HM := hid (show alw x0 x1 x2 x3 j = false → _ from fun h => whF_miss h)
      have HW := hid (sh_wrap j13)
      go_wp2_with (first | (go_at_call 125; (with_reducible refine (l2Ends_any j j13 _).mono ?_); rintro e w2 ⟨v, rfl, hv⟩))
      obtain ⟨hb2, hv⟩ := hv.cases
      obtain ⟨g, capg, rfl, hlo, hrow, _⟩ : ∃ b cap, v = .slice (some ⟨b, 0, none⟩) 4 cap ∧ wo.heap.size ≤ b ∧ RowAt w2 b cap 4 (eoF j) ∧ True := by
        rcases hv with ⟨h, _⟩ | ⟨_, b, cap, h1, h2, h3, _⟩
        · omega
        · exact ⟨b, cap, h1, h2, h3, trivial⟩
      have hc4 := hrow.1
      have HL2 := HI.out.1.below hb2
      have HB2 := hid (HI.out.2.trans (hb2.mono HI.out.2.size))
      have HK := hid (show L4 w2 b 0 x0 x1 x2 x3 ∧ Below w.heap.size w w2 from ⟨HL2, HB2.out⟩)
      have c0 : ∀ m, (w2.drewN m).cell? ⟨b, 0, none⟩ = some (.int .i64 x0) := fun _ => HL2.c0
      have c1 : ∀ m, (w2.drewN m).cell? ⟨b, 1, none⟩ = some (.int .i64 x1) := fun _ => HL2.c1
      have c2 : ∀ m, (w2.drewN m).cell? ⟨b, 2, none⟩ = some (.int .i64 x2) := fun _ => HL2.c2
      have c3 : ∀ m, (w2.drewN m).cell? ⟨b, 3, none⟩ = some (.int .i64 x3) := fun _ => HL2.c3
      have e0' : ∀ m, (w2.drewN m).cell? ⟨g, 0, none⟩ = some (.int .i64 (eoF j 0)) := fun _ => hrow.2.2 0 (by omega)
      have e1' : ∀ m, (w2.drewN m).cell? ⟨g, 1, none⟩ = some (.int .i64 (eoF j 1)) := fun _ => hrow.2.2 1 (by omega)
      have e2' : ∀ m, (w2.drewN m).cell? ⟨g, 2, none⟩ = some (.int .i64 (eoF j 2)) := fun _ => hrow.2.2 2 (by omega)
      have e3' : ∀ m, (w2.drewN m).cell? ⟨g, 3, none⟩ = some (.int .i64 (eoF j 3)) := fun _ => hrow.2.2 3 (by omega)
      have n0 := band_ne h0 (eo_ord j 0)
      have n1 := band_ne h1 (eo_ord j 1)
      have n2 := band_ne h2 (eo_ord j 2)
      have n3 := band_ne h3 (eo_ord j 3)
      unfold band at n0 n1 n2 n3
      clear HI hb2 hrow hv HL2 HB2
      generalize eoF j 0 = y0 at *
      generalize eoF j 1 = y1 at *
      generalize eoF j 2 = y2 at *
      generalize eoF j 3 = y3 at *
      have c0' := c0 0
      have c1' := c1 0
      have c2' := c2 0
      have c3' := c3 0
      have g0' := e0' 0
      have g1' := e1' 0
      have g2' := e2' 0
      have g3' := e3' 0
      have HD : Hid (∀ m, L4 (w2.drewN m) b 0 x0 x1 x2 x3 ∧ Below w.heap.size w (w2.drewN m)) := hid fun m => ⟨HK.out.1.drewN m, below_drewN' HK.out.2 m⟩
      cases q0 : hs x0 y0
      · have HF2 := hid (HM.out (by rw [HP.out, q0]; rfl))
        rw [q0] at n0
        clear q0 HH HM HP n1 n2 n3
        go_wp2
        go_quiet (fail)
        go_wp2
        go_roundw
        case rel => exact ⟨j + 1, by omega, by go_num, by rw [HF2.out], hid (HD.out _)⟩
        case measure => simp [intOf]; omega
      · rw [q0] at n0
        cases q1 : hs x1 y1
        · have HF2 := hid (HM.out (by rw [HP.out, q0, q1]; rfl))
          rw [q1] at n1
          clear q0 q1 HH HM HP n2 n3
          go_wp2
          go_quiet (fail)
          go_wp2
          go_roundw
          case rel => exact ⟨j + 1, by omega, by go_num, by rw [HF2.out], hid (HD.out _)⟩
          case measure => simp [intOf]; omega
        · rw [q1] at n1
          cases q2 : hs x2 y2
          · have HF2 := hid (HM.out (by rw [HP.out, q0, q1, q2]; rfl))
            rw [q2] at n2
            clear q0 q1 q2 HH HM HP n3
            go_wp2
            go_quiet (fail)
            go_wp2
            go_roundw
            case rel => exact ⟨j + 1, by omega, by go_num, by rw [HF2.out], hid (HD.out _)⟩
            case measure => simp [intOf]; omega
          · rw [q2] at n2
            cases q3 : hs x3 y3
            · have HF2 := hid (HM.out (by rw [HP.out, q0, q1, q2, q3]; rfl))
              rw [q3] at n3
              clear q0 q1 q2 q3 HH HM HP
              go_wp2
              go_quiet (fail)
              go_wp2
              go_roundw
              case rel => exact ⟨j + 1, by omega, by go_num, by rw [HF2.out], hid (HD.out _)⟩
              case measure => simp [intOf]; omega
            · have HF2 := hid (HH.out (by rw [HP.out, q0, q1, q2, q3]; rfl))
              rw [q3] at n3
              clear q0 q1 q2 q3 HH HM HP
              go_wp2
              go_quiet (fail)
              go_wp2
              go_roundw
              case rel => exact ⟨j + 1, by omega, by go_num, ret_val (by rw [HW.out]; exact HF2.out), hid (HD.out _)⟩
              case measure => simp [intOf]; omega
    · obtain rfl : j = 13 := by omega
      have hdj : decide (((13 : Nat) : Int) < 13) = false := by simp
      go_wp2
      go_ret
      exact ⟨rfl, HI.out.2⟩
theorem sIsPointable_any (r : Int) (w : World) :
    Calls Tryd.prog 67 #[.int .i64 r] w fun e w' => e = .returned (.bool (ptB r)) ∧ Below w.heap.size w w' := by
  rcases rv_cases r with h | ⟨n, hn, rfl⟩
  · have H := hid h
    clear h
    have HS := AllLt.start w; go_enter Tryd.func67, Tryd.ntmps67
    go_wp2_with (first | (go_at_call 115; (with_reducible refine (sRelValid_any r _).mono ?_); rintro e w' ⟨rfl, rfl⟩; rw [H.out]))
    go_ret
    exact ⟨ret_bool (ptB_off H.out).symm, Below.refl _ _⟩
  · have H := hid (rv_nat n hn)
    obtain ⟨p0, p1, p2, p3⟩ := es_pv n
    have HP : Hid (ptB n = decide (((rooN (es0 n) (es1 n) (es2 n) (es3 n) : Nat) : Int) = n)) := hid (ptB_on hn)
    have HS := AllLt.start w; go_enter Tryd.func67, Tryd.ntmps67
    go_wp2_with (first | (go_at_call 115; (with_reducible refine (sRelValid_any _ _).mono ?_); rintro e w' ⟨rfl, rfl⟩; rw [H.out]) | (go_at_call 73; (with_reducible refine (l4Orders_any n hn _).mono ?_); rintro e w1 ⟨rfl, hf1, hb1⟩) | (go_at_call 78; (with_reducible refine (l4Rel_any _ 4 (Nat.le_refl _) (es0 n) (es1 n) (es2 n) (es3 n) p0 p1 p2 p3 _ ⟨hf1.c 0 (by omega), hf1.c 1 (by omega), hf1.c 2 (by omega), hf1.c 3 (by omega), hf1.lt⟩).mono ?_); rintro e w2 ⟨rfl, hb2⟩))
    go_ret
    exact ⟨ret_bool (by rw [HP.out, Bool.eq_iff_iff]; simp), hb1.trans (hb2.mono hb1.size)⟩
theorem iIsPointable_any (r : Int) (w : World) (hT : TB w) :
    Calls Tryd.prog 71 #[.int .i64 r] w fun e w' => e = .returned (.bool (ptB r)) ∧ Below w.heap.size w w' := by
  have HT := hid hT
  clear hT
  rcases rv_cases r with h | ⟨n, hn, rfl⟩
  · have H := hid h
    clear h
    have HS := AllLt.start w; go_enter Tryd.func71, Tryd.ntmps71
    go_wp2_with (first | (go_at_call 123; (with_reducible refine (iRelValid_any r _).mono ?_); rintro e w' ⟨rfl, rfl⟩; rw [H.out]))
    go_ret
    exact ⟨ret_bool (ptB_off H.out).symm, Below.refl _ _⟩
  · have H := hid (rv_nat n hn)
    obtain ⟨p0, p1, p2, p3⟩ := es_pv n
    have HP : Hid (ptB n = decide (((whN (alw (es0 n) (es1 n) (es2 n) (es3 n)) : Nat) : Int) = n)) := hid (ptB_on hn)
    have HE := hid (endSets_any n hn)
    have HA := hid (fun w hT => where_allow (es0 n) (es1 n) (es2 n) (es3 n) p0 p1 p2 p3 w hT)
    generalize es0 n = x0 at *
    generalize es1 n = x1 at *
    generalize es2 n = x2 at *
    generalize es3 n = x3 at *
    have HS := AllLt.start w; go_enter Tryd.func71, Tryd.ntmps71
    go_wp2_with (first | (go_at_call 123; (with_reducible refine (iRelValid_any _ _).mono ?_); rintro e w' ⟨rfl, rfl⟩; rw [H.out]) | (go_at_call 124; (with_reducible refine (HE.out _ HT.out).mono ?_); rintro e w1 ⟨rfl, hb1⟩) | (go_at_call 84; (with_reducible refine (HA.out _ (HT.out.below hb1)).mono ?_); rintro e w2 ⟨rfl, hb2⟩))
    go_ret
    exact ⟨ret_bool (by rw [HP.out, Bool.eq_iff_iff]; simp), hb1.trans (hb2.mono hb1.size)⟩
end Go.Proofs.YtmdgkhebefnfeaaDoor.C
