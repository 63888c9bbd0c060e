/- Chapter 4: the exact law of the orders of ends. -/
import Derived.Test.YtnhpjjbblegnaaaDoorEosS
namespace Go.Proofs.YtnhpjjbblegnaaaDoor.C
open Go.RowKit
set_option linter.unusedVariables false
set_option linter.unusedSimpArgs false
theorem F4.newS {w w' : World} {f : Nat → Int} (h : F4 w' w.heap.size f) (hb : Below w.heap.size w w') : NewSl w 4 f (.slice (some ⟨w.heap.size, 0, none⟩) 4 4) w' :=
  ⟨hb, .inr ⟨_, 4, rfl, Nat.le_refl _, Nat.le_refl _, h.lt, h.c, fun i _ => h.f i⟩⟩
theorem sEndOrders_on (n : Nat) (hn : n < 8192) (w : World) :
    Calls Tryd.prog 27 #[.int .i64 n] w (NewS w 4 (esA (bl n.testBit 13))) := by
  have H := hid (rv_nat n hn)
  have HS := AllLt.start w; go_enter Tryd.func27, Tryd.ntmps27
  go_wp2_with (first | (go_at_call 37; (with_reducible refine (sRelValid_any _ _).mono ?_); rintro e w' ⟨rfl, rfl⟩; rw [H.out]) | (go_at_call 53; (with_reducible refine (l4Orders_any n hn _).mono ?_); rintro e w1 ⟨rfl, hf1, hb1⟩))
  go_ret
  exact ⟨_, rfl, hf1.newS hb1⟩
theorem sEndOrders_off (r : Int) (h : rv r = false) (w : World) :
    Calls Tryd.prog 27 #[.int .i64 r] w (NewS w 0 (esA [])) := by
  have H := hid h
  clear h
  have HS := AllLt.start w; go_enter Tryd.func27, Tryd.ntmps27
  go_wp2_with (first | (go_at_call 37; (with_reducible refine (sRelValid_any _ _).mono ?_); rintro e w' ⟨rfl, rfl⟩; rw [H.out]))
  go_ret
  exact ⟨_, rfl, by (repeat' (first | (with_reducible exact Below.refl _ _) | (with_reducible refine Below.setCell ?_ ?_ _) | (with_reducible refine below_drewN' ?_ _) | (with_reducible refine below_drew' ?_) | (with_reducible refine Below.alloc ?_ ?_ _) | (with_reducible assumption) | go_size)), .inl ⟨rfl, _, _, rfl⟩⟩
theorem intInfo4 : (Tryd.prog.info? 3).map (fun i => (i.zero, i.size, i.bytes)) = some (some (.int .i64 0), 1, 8) := by kernel_rfl
theorem is_at (f : Nat → Int) (p : Nat) (hp : p < 4) (w : World) : (Instr.index 51 (.agg #[.int .i64 (f 0), .int .i64 (f 1), .int .i64 (f 2), .int .i64 (f 3)]) (.int .i64 p)).run Tryd.prog w = .ok (.int .i64 (f p)) w := by
  obtain rfl | rfl | rfl | rfl : p = 0 ∨ p = 1 ∨ p = 2 ∨ p = 3 := by omega
  all_goals kernel_rfl
def ilst (f : Nat → Int) (p : Nat) : List Value := (List.range p).map fun i => Value.int .i64 (f i)
theorem ilst_snoc (f : Nat → Int) (p : Nat) : ilst f (p + 1) = ilst f p ++ [.int .i64 (f p)] := by simp [ilst, List.range_succ]
theorem own_newS {w w' : World} {v : Value} {f : Nat → Int} {T : TypeId} (h : w'.ownsRow w.heap.size T 1 v 4 (ilst f 4)) (hb : Below w.heap.size w w') : NewSl w 4 f v w' := by
  have h0 := h
  rcases h.2 with ⟨_, hn⟩ | ⟨g, cap, cur, rfl, hB, hg, h1, h2, h3, h4⟩
  · omega
  · refine ⟨hb, .inr ⟨g, cap, rfl, h1, hB, (Array.getElem?_eq_some_iff.1 hg).1, fun i hi => ?_, fun i _ => by simp [World.frozen?, hg]⟩⟩
    have c1 := h0.cells (g := g) rfl i (.int .i64 (f i)) (by simp [ilst, hi])
    have ha : ∀ j, (⟨g, 0, none⟩ : Addr).add j = ⟨g, j, none⟩ := fun j => by unfold Addr.add; split <;> simp_all
    rw [ha] at c1
    exact c1
set_option maxHeartbeats 2000000 in
theorem iEndOrders_on (n : Nat) (hn : n < 8192) (w : World) (hT : TB w) :
    Calls Tryd.prog 28 #[.int .i64 n] w (NewS w 4 (esA (bl n.testBit 13))) := by
  have HT := hid hT
  clear hT
  have H := hid (rv_nat n hn)
  obtain ⟨i0, hi0, hz0, hz1, hz2⟩ := info_parts intInfo4
  have hmk : ∀ w : World, (Instr.makeSlice 28 (.int .i64 0) (.int .i64 4)).run Tryd.prog w = .ok (.slice (some ⟨w.heap.size, 0, none⟩) 0 4) (w.alloc (.cells #[.int .i64 0, .int .i64 0, .int .i64 0, .int .i64 0] 3)) := fun w => by kernel_rfl
  have HE : Hid (∀ w, TB w → Calls Tryd.prog 54 #[.int .i64 n] w fun e w' => e = .returned (.agg #[.int .i64 (esA (bl n.testBit 13) 0), .int .i64 (esA (bl n.testBit 13) 1), .int .i64 (esA (bl n.testBit 13) 2), .int .i64 (esA (bl n.testBit 13) 3)]) ∧ Below w.heap.size w w') := hid fun w h => endSets_any n hn w h
  have HX := hid (is_at (esA (bl n.testBit 13)))
  generalize esA (bl n.testBit 13) = f at *
  have HO0 := hid (World.ownsRow_made (e := 3) (size := 1) w #[.int .i64 0, .int .i64 0, .int .i64 0, .int .i64 0] 4 (Nat.le_refl _) (by unfold maxLen; omega) rfl)
  have HB0 := hid ((Below.refl w.heap.size w).alloc (Nat.le_refl _) (.cells #[.int .i64 0, .int .i64 0, .int .i64 0, .int .i64 0] 3))
  have HS := AllLt.start w; go_enter Tryd.func28, Tryd.ntmps28
  go_wp2_with (first | (go_at_call 39; (with_reducible refine (iRelValid_any _ _).mono ?_); rintro e w' ⟨rfl, rfl⟩; rw [H.out]) | (go_at_call 54; (with_reducible refine (HE.out _ (HT.out.below HB0.out)).mono ?_); rintro e w1 ⟨rfl, hb1⟩))
  have HO1 := hid (own_below HO0.out hb1)
  have HB1 := hid (HB0.out.trans (hb1.mono HB0.out.size))
  clear hb1 HO0 HB0 hmk HE
  go_loopw [3, 12] (fun v i wr => ∃ p : Nat, p ≤ 4 ∧ i = .int .i64 p ∧ Hid (wr.ownsRow w.heap.size 3 1 v p (ilst f p) ∧ Below w.heap.size w wr)) (fun _ i _ => 4 - (intOf i).toNat)
  case atStart => exact ⟨0, by omega, rfl, hid ⟨HO1.out, HB1.out⟩⟩
  case round =>
    obtain ⟨p, hp, rfl, HK⟩ := hrel
    clear HS HO1 HB1
    obtain ⟨wi, rfl⟩ : ∃ wi : World, wi = wr := ⟨_, rfl⟩
    by_cases p4 : p < 4
    · have hdp : decide ((p : Int) < 4) = true := by simp; omega
      have ix := HX.out p p4
      have HF := hid (ilst_snoc f p)
      have hbase : Hid (w.heap.size ≤ wi.heap.size) := hid HK.out.2.size
      generalize f p = o at *
      go_wp2_with (at_builtin; refine wpList_append_own _ rfl _ _ 28 rfl w.heap.size 3 i0 _ 1 8 Tryd.underlying28 hi0 hz0 hz1 hz2 rfl (by decide) _ _ _ rfl (HK.out.1.alloc _) ⟨wi.heap.size, 0, none⟩ 1 1 [.int .i64 o] rfl rfl ?c1 ?c2 ?c3 ?c4 ?c5 ?_)
      case c1 =>
        intro j u hj
        match j, hj with
        | 0, hj => simp at hj; subst hj; simp [Addr.add]
      case c2 => intro u hu; simp at hu; subst hu; rfl
      case c3 => unfold maxLen; omega
      case c4 => omega
      case c5 => have := hbase.out; simp; omega
      intro v' w2 hown' hgrow _
      have HK2 := hid (show w2.ownsRow w.heap.size 3 1 v' (p + 1) (ilst f (p + 1)) ∧ Below w.heap.size w w2 from ⟨by rw [HF.out]; exact hown', (HK.out.2.alloc HK.out.2.size _).grown hgrow (by have := hbase.out; simp; omega) (fun j hj => (HK.out.1.lt j hj).1)⟩)
      clear hown' hgrow HK
      go_wp2
      go_roundw
      case rel => exact ⟨p + 1, by omega, by go_num, HK2⟩
      case measure => simp [intOf]; omega
    · obtain rfl : p = 4 := by omega
      have hdp : decide (((4 : Nat) : Int) < 4) = false := by simp
      go_wp2
      go_ret
      exact ⟨_, rfl, own_newS HK.out.1 HK.out.2⟩
theorem iEndOrders_off (r : Int) (h : rv r = false) (w : World) :
    Calls Tryd.prog 28 #[.int .i64 r] w (NewS w 0 (esA [])) := by
  have H := hid h
  clear h
  have HS := AllLt.start w; go_enter Tryd.func28, Tryd.ntmps28
  go_wp2_with (first | (go_at_call 39; (with_reducible refine (iRelValid_any _ _).mono ?_); rintro e w' ⟨rfl, rfl⟩; rw [H.out]))
  go_ret
  exact ⟨_, rfl, Below.refl _ _, .inl ⟨rfl, _, _, rfl⟩⟩
theorem eos_both (r : Int) : ∃ (n : Nat) (f : Nat → Int), n ≤ 4 ∧ (∀ w, Calls Tryd.prog 27 #[.int .i64 r] w (NewS w n f)) ∧ ∀ w, TB w → Calls Tryd.prog 28 #[.int .i64 r] w (NewS w n f) := by
  rcases rv_cases r with h | ⟨n, hn, rfl⟩
  · exact ⟨0, esA [], by omega, fun w => sEndOrders_off r h w, fun w _ => iEndOrders_off r h w⟩
  · exact ⟨4, esA (bl n.testBit 13), by omega, fun w => sEndOrders_on n hn w, fun w hT => iEndOrders_on n hn w hT⟩
set_option maxHeartbeats 2000000 in
theorem walk_FnExactEndOrders (a0 : Int) (w : World) (w0 : (Lit.int .i64 a0).wf = true) (hB : TB w) :
    Calls Tryd.prog 10 #[.int .i64 a0] w fun e w' => e = .returned (.bool true) ∧ Below w.heap.size w w' := by
  clear w0
  have HB := hid hB
  clear hB
  obtain ⟨n, f, hn, hS, hI⟩ := eos_both a0
  have HS' := hid hS
  have HI := hid hI
  clear hS hI
  have HS := AllLt.start w; go_enter Tryd.func10, Tryd.ntmps10
  go_wp2_with fail
  refine (HS'.out _).mono ?_
  rintro e w1 ⟨v0, rfl, h0⟩
  obtain ⟨hb1, h0⟩ := h0.cases
  have HB1 := hid (HB.out.below hb1)
  go_wp2_with fail
  refine (HI.out _ HB1.out).mono ?_
  rintro e w2 ⟨g0, rfl, h1⟩
  obtain ⟨hb2, h1⟩ := h1.cases
  have hB2 := hb1.trans (hb2.mono hb1.size)
  rcases h0 with ⟨hz, a, c, rfl⟩ | ⟨hp, b0, c0, rfl, hlo, hr0, _⟩
  · subst hz
    obtain ⟨a', c', rfl⟩ : ∃ a c, g0 = .slice a 0 c := by
      rcases h1 with ⟨_, a, c, rfl⟩ | ⟨h, _⟩
      · exact ⟨_, _, rfl⟩
      · omega
    have HB2 := hid hB2
    clear h1 hb1 hb2 hB2
    go_wp2_with fail
    refine (eqIntS_zero _ _ _ _ _).mono ?_
    rintro e _ ⟨rfl, m, rfl⟩
    go_wp2_with fail
    refine (markIntS_zero _ _ _ _).mono ?_
    rintro e _ ⟨rfl, rfl⟩
    go_wp2_with fail
    refine (heldIntS_zero _ _ _ _).mono ?_
    rintro e _ ⟨rfl, rfl⟩
    go_wp2_with fail
    refine (HI.out _ ((HB.out.below HB2.out).drewN _)).mono ?_
    rintro e w3 ⟨g1, rfl, h2⟩
    obtain ⟨hb3, h2⟩ := h2.cases
    obtain ⟨a'', c'', rfl⟩ : ∃ a c, g1 = .slice a 0 c := by
      rcases h2 with ⟨_, a, c, rfl⟩ | ⟨h, _⟩
      · exact ⟨_, _, rfl⟩
      · omega
    have HB3 := hid (HB2.out.trans ((below_drewN _ _ m).trans (hb3.mono HB2.out.size)))
    clear h2 hb3
    go_wp2_with fail
    refine (eqIntS_zero _ _ _ _ _).mono ?_
    rintro e _ ⟨rfl, m', rfl⟩
    go_wp2_with fail
    refine (heldIntS_zero _ _ _ _).mono ?_
    rintro e _ ⟨rfl, rfl⟩
    go_wp2
    go_ret
    exact ⟨rfl, HB3.out.trans (below_drewN _ _ _)⟩
  · obtain ⟨b1, c1, rfl, hlo1, hr1, hf1⟩ : ∃ b cap, g0 = .slice (some ⟨b, 0, none⟩) n cap ∧ w1.heap.size ≤ b ∧ RowAt w2 b cap n f ∧ ∀ i, i < n → w2.frozen? ⟨b, i, none⟩ = false := by
      rcases h1 with ⟨h, _⟩ | ⟨_, h⟩
      · omega
      · exact h
    have hne : b0 ≠ b1 := by have := hr0.2.1; omega
    have H0 := hid (hr0.below hb2)
    have H1 := hid hr1
    have HF := hid hf1
    have HB2 := hid hB2
    have hle1 : w.heap.size ≤ b1 := Nat.le_trans hb1.size hlo1
    have HQ := hid (show decide (((1 + n : Nat) : Int) < 0) = false by simp; omega)
    clear h1 hb1 hb2 hB2 hr0 hr1 hf1
    go_wp2_with fail
    refine (eqIntS_same _ _ n f _ (by omega) H1.out.sl H0.out.sl).mono ?_
    rintro e _ ⟨rfl, m, rfl⟩
    go_wp2_with fail
    refine (show Calls _ _ #[_, .int .i64 1] _ _ from markIntS_row b1 c1 n 1 (w2.drewN m) (by omega) H1.out.1 (fun i hi => ⟨_, H1.out.2.2 i hi⟩) HF.out).mono ?_
    rintro e w3 ⟨rfl, hM⟩
    have HM := hid hM
    clear hM
    have hB3 := hid (HB2.out.trans ((below_drewN w.heap.size w2 m).trans (HM.out.wr.below hle1 HB2.out.size)))
    go_wp2_with fail
    refine (show Calls _ _ #[_, .int .i64 1] _ _ from heldIntS_row b1 c1 n 1 w3 (by omega) H1.out.1 HM.out.done).mono ?_
    rintro e _ ⟨rfl, rfl⟩
    have hq := HQ.out
    go_wp2_with fail
    refine (HI.out _ (HB.out.below hB3.out)).mono ?_
    rintro e w4 ⟨g1, rfl, h2⟩
    obtain ⟨hb4, h2⟩ := h2.cases
    obtain ⟨b2, c2, rfl, hlo2, hr2⟩ : ∃ b cap, g1 = .slice (some ⟨b, 0, none⟩) n cap ∧ w3.heap.size ≤ b ∧ RowAt w4 b cap n f := by
      rcases h2 with ⟨h, _⟩ | ⟨_, b, cap, h3, h4, h5, _⟩
      · omega
      · exact ⟨b, cap, h3, h4, h5⟩
    have H2 := hid hr2
    have H3 := hid (((H0.out.drewN m).wr HM.out.wr hne).below hb4)
    have H4 := hid (show ∀ i, i < n → w4.cell? ⟨b1, i, none⟩ = some (.int .i64 ((1 + i : Nat) : Int)) from fun i hi => by
      rw [hb4.cell (p := ⟨b1, i, none⟩) (Nat.lt_of_lt_of_le H1.out.2.1 HM.out.wr.size)]; exact HM.out.done i hi)
    have HB4 := hid (hB3.out.trans (hb4.mono hB3.out.size))
    clear h2 hr2 hb4
    go_wp2_with fail
    refine (eqIntS_same _ _ n f _ (by omega) H2.out.sl H3.out.sl).mono ?_
    rintro e _ ⟨rfl, m', rfl⟩
    go_wp2_with fail
    refine (show Calls _ _ #[_, .int .i64 1] _ _ from heldIntS_row b1 c1 n 1 (w4.drewN m') (by omega) H1.out.1 H4.out).mono ?_
    rintro e _ ⟨rfl, rfl⟩
    go_wp2
    go_ret
    exact ⟨rfl, HB4.out.trans (below_drewN _ _ _)⟩
end Go.Proofs.YtnhpjjbblegnaaaDoor.C
