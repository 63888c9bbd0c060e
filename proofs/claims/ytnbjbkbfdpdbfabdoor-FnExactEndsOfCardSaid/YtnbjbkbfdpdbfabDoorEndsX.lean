/- The exact law of the orders of the ends. -/
import Derived.Test.YtnbjbkbfdpdbfabDoorEndsOf
namespace Go.Proofs.YtnbjbkbfdpdbfabDoor.C
open Go.RowKit
set_option linter.unusedVariables false
set_option linter.unusedSimpArgs false
/-- A slice in a row at block b, if it has elements. -/
def RowAt (w : World) (b cap n : Nat) (f : Nat → Int) : Prop := n ≤ cap ∧ b < w.heap.size ∧ ∀ i, i < n → w.cell? ⟨b, i, none⟩ = some (.int .i64 (f i))
theorem RowAt.sl {w : World} {b cap n : Nat} {f : Nat → Int} (h : RowAt w b cap n f) : Sl w (.slice (some ⟨b, 0, none⟩) n cap) n f := .inr ⟨b, cap, rfl, h.1, h.2.2⟩
theorem RowAt.below {w w' : World} {b cap n : Nat} {f : Nat → Int} (h : RowAt w b cap n f) (hb : Below w.heap.size w w') : RowAt w' b cap n f :=
  ⟨h.1, Nat.lt_of_lt_of_le h.2.1 hb.size, fun i hi => by rw [hb.cell (p := ⟨b, i, none⟩) h.2.1]; exact h.2.2 i hi⟩
theorem RowAt.wr {w w' : World} {b cap n q : Nat} {f : Nat → Int} (h : RowAt w b cap n f) (hW : Wr q w w') (hq : b ≠ q) : RowAt w' b cap n f :=
  ⟨h.1, Nat.lt_of_lt_of_le h.2.1 hW.size, fun i hi => by rw [hW.cell h.2.1 hq]; exact h.2.2 i hi⟩
theorem RowAt.drewN {w : World} {b cap n : Nat} {f : Nat → Int} (h : RowAt w b cap n f) (m : Nat) : RowAt (w.drewN m) b cap n f := h
/-- What an exact law asks of a slice that is new: as a row, or empty. -/
theorem NewSl.cases {w : World} {n : Nat} {f : Nat → Int} {v : Value} {w' : World} (h : NewSl w n f v w') :
    Below w.heap.size w w' ∧ ((n = 0 ∧ ∃ a c, v = .slice a 0 c) ∨ (0 < n ∧ ∃ b cap, v = .slice (some ⟨b, 0, none⟩) n cap ∧ w.heap.size ≤ b ∧ RowAt w' b cap n f ∧ ∀ i, i < n → w'.frozen? ⟨b, i, none⟩ = false)) := by
  obtain ⟨h1, h2⟩ := h
  refine ⟨h1, ?_⟩
  rcases h2 with h2 | ⟨b, cap, rfl, h3, h4, h5, h6, h7⟩
  · exact .inl h2
  · by_cases hn : n = 0
    · subst hn; exact .inl ⟨rfl, _, _, rfl⟩
    · exact .inr ⟨by omega, b, cap, rfl, h4, ⟨h3, h5, h6⟩, h7⟩
theorem ends_both (s : ByteArray) (hs : s.size ≤ 9223372036854775807) : ∃ (n : Nat) (f : Nat → Int), n ≤ 4 ∧ (∀ w, Calls Tryd.prog 10 #[.string s] w (NewS w n f)) ∧ ∀ w, TB w → Calls Tryd.prog 11 #[.string s] w (NewS w n f) := by
  rcases lix_cases s with ⟨k, hk, _, hr⟩ | ⟨_, hr⟩
  · exact ⟨4, eoF k, by omega, fun w => sEndsOf_hit s k hk hr w hs, fun w hT => iEndsOf_hit s k hk hr w hT⟩
  · exact ⟨0, eoF 0, by omega, fun w => sEndsOf_miss s hr w hs, fun w hT => iEndsOf_miss s hr w hT⟩
set_option maxHeartbeats 2000000 in
theorem walk_FnExactEndsOf (a0 : ByteArray) (w : World) (w0 : a0.size ≤ maxLen) (hB : TB w) :
    Calls Tryd.prog 5 #[.string a0] w fun e w' => e = .returned (.bool true) ∧ Below w.heap.size w w' := by
  have HB := hid hB
  clear hB
  unfold maxLen at w0
  by_cases hl : a0.size ≤ 1048576
  · have hd : decide ((1048576 : Int) < (a0.size : Int)) = false := by simp; omega
    obtain ⟨n, f, hn, hS, hI⟩ := ends_both a0 (by omega)
    have HS' := hid hS
    have HI := hid hI
    clear hS hI
    have HS := AllLt.start w; go_enter Tryd.func5, Tryd.ntmps5
    go_wp2_with fail
    refine (HS'.out _).mono ?_
    rintro e w1 ⟨v0, rfl, h0⟩
    obtain ⟨hb1, h0⟩ := h0.cases
    have HB1 := hid (HB.out.below hb1)
    go_wp2_with fail
    refine (HI.out _ HB1.out).mono ?_
    rintro e w2 ⟨g0, rfl, h1⟩
    obtain ⟨hb2, h1⟩ := h1.cases
    have hB2 := hb1.trans (hb2.mono hb1.size)
    rcases h0 with ⟨hz, a, c, rfl⟩ | ⟨hp, b0, c0, rfl, hlo, hr0, _⟩
    · subst hz
      obtain ⟨a', c', rfl⟩ : ∃ a c, g0 = .slice a 0 c := by
        rcases h1 with ⟨_, a, c, rfl⟩ | ⟨h, _⟩
        · exact ⟨_, _, rfl⟩
        · omega
      have HB2 := hid hB2
      clear h1 hb1 hb2 hB2
      go_wp2_with fail
      refine (eqIntS_zero _ _ _ _ _).mono ?_
      rintro e _ ⟨rfl, m, rfl⟩
      go_wp2_with fail
      refine (markIntS_zero _ _ _ _).mono ?_
      rintro e _ ⟨rfl, rfl⟩
      go_wp2_with fail
      refine (heldIntS_zero _ _ _ _).mono ?_
      rintro e _ ⟨rfl, rfl⟩
      go_wp2_with fail
      refine (HI.out _ ((HB.out.below HB2.out).drewN _)).mono ?_
      rintro e w3 ⟨g1, rfl, h2⟩
      obtain ⟨hb3, h2⟩ := h2.cases
      obtain ⟨a'', c'', rfl⟩ : ∃ a c, g1 = .slice a 0 c := by
        rcases h2 with ⟨_, a, c, rfl⟩ | ⟨h, _⟩
        · exact ⟨_, _, rfl⟩
        · omega
      have HB3 := hid (HB2.out.trans ((below_drewN _ _ m).trans (hb3.mono HB2.out.size)))
      clear h2 hb3
      go_wp2_with fail
      refine (eqIntS_zero _ _ _ _ _).mono ?_
      rintro e _ ⟨rfl, m', rfl⟩
      go_wp2_with fail
      refine (heldIntS_zero _ _ _ _).mono ?_
      rintro e _ ⟨rfl, rfl⟩
      go_wp2
      go_ret
      exact ⟨rfl, HB3.out.trans (below_drewN _ _ _)⟩
    · obtain ⟨b1, c1, rfl, hlo1, hr1, hf1⟩ : ∃ b cap, g0 = .slice (some ⟨b, 0, none⟩) n cap ∧ w1.heap.size ≤ b ∧ RowAt w2 b cap n f ∧ ∀ i, i < n → w2.frozen? ⟨b, i, none⟩ = false := by
        rcases h1 with ⟨h, _⟩ | ⟨_, h⟩
        · omega
        · exact h
      have hne : b0 ≠ b1 := by have := hr0.2.1; omega
      have H0 := hid (hr0.below hb2)
      have H1 := hid hr1
      have HF := hid hf1
      have HB2 := hid hB2
      have hle1 : w.heap.size ≤ b1 := Nat.le_trans hb1.size hlo1
      have HQ := hid (show decide (((1 + n : Nat) : Int) < 0) = false by simp; omega)
      clear h1 hb1 hb2 hB2 hr0 hr1 hf1
      go_wp2_with fail
      refine (eqIntS_same _ _ n f _ (by omega) H1.out.sl H0.out.sl).mono ?_
      rintro e _ ⟨rfl, m, rfl⟩
      go_wp2_with fail
      refine (show Calls _ _ #[_, .int .i64 1] _ _ from markIntS_row b1 c1 n 1 (w2.drewN m) (by omega) H1.out.1 (fun i hi => ⟨_, H1.out.2.2 i hi⟩) HF.out).mono ?_
      rintro e w3 ⟨rfl, hM⟩
      have HM := hid hM
      clear hM
      have hB3 := hid (HB2.out.trans ((below_drewN w.heap.size w2 m).trans (HM.out.wr.below hle1 HB2.out.size)))
      go_wp2_with fail
      refine (show Calls _ _ #[_, .int .i64 1] _ _ from heldIntS_row b1 c1 n 1 w3 (by omega) H1.out.1 HM.out.done).mono ?_
      rintro e _ ⟨rfl, rfl⟩
      have hq := HQ.out
      go_wp2_with fail
      refine (HI.out _ (HB.out.below hB3.out)).mono ?_
      rintro e w4 ⟨g1, rfl, h2⟩
      obtain ⟨hb4, h2⟩ := h2.cases
      obtain ⟨b2, c2, rfl, hlo2, hr2⟩ : ∃ b cap, g1 = .slice (some ⟨b, 0, none⟩) n cap ∧ w3.heap.size ≤ b ∧ RowAt w4 b cap n f := by
        rcases h2 with ⟨h, _⟩ | ⟨_, b, cap, h3, h4, h5, _⟩
        · omega
        · exact ⟨b, cap, h3, h4, h5⟩
      have H2 := hid hr2
      have H3 := hid (((H0.out.drewN m).wr HM.out.wr hne).below hb4)
      have H4 := hid (show ∀ i, i < n → w4.cell? ⟨b1, i, none⟩ = some (.int .i64 ((1 + i : Nat) : Int)) from fun i hi => by
        rw [hb4.cell (p := ⟨b1, i, none⟩) (Nat.lt_of_lt_of_le H1.out.2.1 HM.out.wr.size)]; exact HM.out.done i hi)
      have HB4 := hid (hB3.out.trans (hb4.mono hB3.out.size))
      clear h2 hr2 hb4
      go_wp2_with fail
      refine (eqIntS_same _ _ n f _ (by omega) H2.out.sl H3.out.sl).mono ?_
      rintro e _ ⟨rfl, m', rfl⟩
      go_wp2_with fail
      refine (show Calls _ _ #[_, .int .i64 1] _ _ from heldIntS_row b1 c1 n 1 (w4.drewN m') (by omega) H1.out.1 H4.out).mono ?_
      rintro e _ ⟨rfl, rfl⟩
      go_wp2
      go_ret
      exact ⟨rfl, HB4.out.trans (below_drewN _ _ _)⟩
  · have hd : decide ((1048576 : Int) < (a0.size : Int)) = true := by simp; omega
    have HS := AllLt.start w; go_enter Tryd.func5, Tryd.ntmps5
    go_wp2
    go_ret
    exact ⟨rfl, Below.refl _ _⟩
end Go.Proofs.YtnbjbkbfdpdbfabDoor.C
