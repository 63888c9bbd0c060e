/- The program: which node leaves less, all pairs, whether a network is closed. -/
import Derived.Test.YtlmmjdaipedjjaaGreatDoorCloA
import Derived.Test.YtlmmjdaipedjjaaGreatDoorCloB
import Derived.Deep.RegionHeld3
namespace Go.Proofs.YtlmmjdaipedjjaaGreatDoor.C
open Go.RowKit
set_option linter.unusedVariables false
set_option linter.unusedSimpArgs false
/-- a node leaves less -/
def whyP (R : Nat → Nat → Nat) (i k b : Nat) : Bool := triN R i k b != R i k
def whyO (R : Nat → Nat → Nat) (i k n : Nat) : Option Nat := (List.range n).find? (whyP R i k)
def whyN (R : Nat → Nat → Nat) (i k n : Nat) : Nat := (whyO R i k n).getD 0
def whyB (R : Nat → Nat → Nat) (i k n : Nat) : Bool := (whyO R i k n).isSome
theorem why_hit {R : Nat → Nat → Nat} {i k n b : Nat} (hb : b < n) (h : whyP R i k b = true) (H : ∀ x, x < b → whyP R i k x = false) : whyO R i k n = some b := by
  unfold whyO
  rw [List.find?_range_eq_some]
  exact ⟨h, List.mem_range.2 hb, fun j hj => by rw [H j hj]; rfl⟩
theorem why_miss {R : Nat → Nat → Nat} {i k n : Nat} (H : ∀ x, x < n → whyP R i k x = false) : whyO R i k n = none := by
  unfold whyO
  rw [List.find?_range_eq_none]
  exact fun j hj => by rw [H j hj]; rfl
theorem whyB_stb {R : Nat → Nat → Nat} {i k n : Nat} : whyB R i k n = false ↔ stb R i k n := by
  unfold whyB
  rw [Option.isSome_eq_false_iff, Option.isNone_iff_eq_none]
  unfold whyO
  rw [List.find?_range_eq_none]
  constructor
  · intro h b hb
    have := h b hb
    simpa [whyP] using this
  · intro h b hb
    have := h b hb
    simpa [whyP] using this
/-- the cells of pairs -/
def prC (l : List (Nat × Nat)) : List Value := l.flatMap fun p => [.int .i64 (p.1 : Int), .int .i64 (p.2 : Int)]
theorem prC_snoc (l : List (Nat × Nat)) (p : Nat × Nat) : prC (l ++ [p]) = prC l ++ [.int .i64 (p.1 : Int), .int .i64 (p.2 : Int)] := by simp [prC]
theorem prC_at : ∀ (l : List (Nat × Nat)) (j : Nat), j < l.length → (prC l)[2 * j]? = some (.int .i64 ((l.getD j (0, 0)).1 : Int)) ∧ (prC l)[2 * j + 1]? = some (.int .i64 ((l.getD j (0, 0)).2 : Int))
  | [], j, h => by simp at h
  | p :: l, 0, _ => by simp [prC]
  | p :: l, j + 1, h => by
    have := prC_at l j (by simpa using h)
    simp only [prC, List.flatMap_cons] at this ⊢
    rw [show 2 * (j + 1) = 2 * j + 1 + 1 by omega, show 2 * j + 1 + 1 + 1 = (2 * j + 1) + 1 + 1 by omega]
    simpa using this
/-- A slice of pairs. -/
def Ps (w : World) (v : Value) (l : List (Nat × Nat)) : Prop :=
  ∃ a cap, v = .slice a l.length cap ∧ ∀ j, j < l.length → ∃ g, a = some ⟨g, 0, none⟩ ∧ g < w.heap.size ∧ w.cell? ⟨g, j * 2, none⟩ = some (.int .i64 ((l.getD j (0, 0)).1 : Int)) ∧ w.cell? ⟨g, j * 2 + 1, none⟩ = some (.int .i64 ((l.getD j (0, 0)).2 : Int))
theorem Ps.of_own {w : World} {v : Value} {l : List (Nat × Nat)} {base : Nat} {T : TypeId} (h : w.ownsRow base T 2 v l.length (prC l)) : Ps w v l := by
  have h0 := h
  rcases h.2 with ⟨rfl, hn⟩ | ⟨g, cap, cur, rfl, hB, hg, h1, h2, h3, h4⟩
  · exact ⟨none, 0, by rw [hn], fun j hj => by omega⟩
  · refine ⟨some ⟨g, 0, none⟩, cap, rfl, fun j hj => ⟨g, rfl, (Array.getElem?_eq_some_iff.1 hg).1, ?_, ?_⟩⟩
    · have ha : ∀ j, (⟨g, 0, none⟩ : Addr).add j = ⟨g, j, none⟩ := fun j => by unfold Addr.add; split <;> simp_all
      have c1 := h0.cells (g := g) rfl (2 * j) _ (prC_at l j hj).1
      rw [ha] at c1
      rw [show j * 2 = 2 * j by omega]; exact c1
    · have ha : ∀ j, (⟨g, 0, none⟩ : Addr).add j = ⟨g, j, none⟩ := fun j => by unfold Addr.add; split <;> simp_all
      have c1 := h0.cells (g := g) rfl (2 * j + 1) _ (prC_at l j hj).2
      rw [ha] at c1
      rw [show j * 2 = 2 * j by omega]; exact c1
theorem pairInfo : (Tryz.prog.info? 104).map (fun i => (i.zero, i.size, i.bytes)) = some (some (.agg #[.int .i64 0, .int .i64 0]), 2, 16) := by kernel_rfl
set_option maxHeartbeats 4000000 in
set_option maxRecDepth 100000 in
theorem pairs_any (n : Nat) (h6 : n ≤ 6) (M : Nat → Nat → Nat) (w : World) :
    Calls Tryz.prog 57 #[.agg (netV n M)] w fun e w' => (∃ v, e = .returned v ∧ w'.ownsRow (w.heap.size + 1) 104 2 v (edL n).length (prC (edL n))) ∧ Below w.heap.size w w' := by
  obtain ⟨i0, hi0, hz0, hz1, hz2⟩ := info_parts pairInfo
  have HN0 := hid (NB.made w n M)
  have HB0 := hid ((Below.refl w.heap.size w).alloc (Nat.le_refl _) (.cells (netV n M) 53))
  have hs1 : (w.alloc (.cells (netV n M) 53)).heap.size = w.heap.size + 1 := World.size_alloc _ _
  have HS := AllLt.start w; go_enter Tryz.func57, Tryz.ntmps57
  go_upto_region 1 with fail
  generalize w.alloc (.cells (netV n M) 53) = w1 at *
  go_wp2_with (refine ld_net rfl _ rfl rfl HN0.out ?_)
  (with_reducible refine (edges_any n h6 M _).mono ?_)
  rintro e w2 ⟨⟨v, rfl, hown⟩, hb⟩
  obtain ⟨a, cap, rfl, hE⟩ := Es.of_own hown
  have HE := hid hE
  have HB2 := hid (HB0.out.trans (hb.mono HB0.out.size))
  have hs2 : w.heap.size + 1 ≤ w2.heap.size := by have := hb.size; omega
  have hl15 := edL_len h6
  clear hown hE hb
  go_wp2_with fail
  go_loopw [3, 9] (fun v x wr => ∃ j : Nat, j ≤ (edL n).length ∧ x = .int .i64 j ∧ Hid (wr.ownsRow w2.heap.size 104 2 v ((edL n).take j).length (prC ((edL n).take j))) ∧ Hid (Below w2.heap.size w2 wr)) (fun _ x _ => (edL n).length - (intOf x).toNat)
  case atStart => exact ⟨0, by omega, rfl, hid (World.ownsRow_nil _ _ _ _), hid (Below.refl _ _)⟩
  case round =>
    obtain ⟨j, hj, rfl, HO, HX⟩ := hrel
    clear HS
    obtain ⟨wi, rfl⟩ : ∃ wi : World, wi = wr := ⟨_, rfl⟩
    by_cases hjl : j < (edL n).length
    · have hdj : decide ((j : Int) < ((edL n).length : Int)) = true := by simp; omega
      have hdk : decide (j < (edL n).length) = true := by simp; omega
      obtain ⟨g, rfl, hg, c0, c1, c2⟩ := HE.out j hjl
      have d0 : wi.cell? ⟨g, j * 3, none⟩ = _ := (HX.out.cell (p := ⟨g, j * 3, none⟩) hg).trans c0
      have d1 : wi.cell? ⟨g, j * 3 + 1, none⟩ = _ := (HX.out.cell (p := ⟨g, j * 3 + 1, none⟩) hg).trans c1
      have d2 : wi.cell? ⟨g, j * 3 + 2, none⟩ = _ := (HX.out.cell (p := ⟨g, j * 3 + 2, none⟩) hg).trans c2
      have HTK := hid (takeP _ _ hjl)
      have hlen : ((edL n).take j).length = j := by rw [List.length_take]; omega
      clear c0 c1 c2
      generalize M ((edL n).getD j (0, 0)).1 ((edL n).getD j (0, 0)).2 = r at *
      generalize hp : (edL n).getD j (0, 0) = p at *
      clear hp
      have hzz := HX.out.size
      obtain ⟨m0, m1, m2⟩ := new_cell3 wi (.int .i64 (p.1 : Int)) (.int .i64 (r : Int)) (.int .i64 (p.2 : Int)) 73
      have HOa := hid ((HO.out.alloc (.cells #[.int .i64 (p.1 : Int), .int .i64 (r : Int), .int .i64 (p.2 : Int)] 73)))
      have HBa := hid (HX.out.alloc hzz (.cells #[.int .i64 (p.1 : Int), .int .i64 (r : Int), .int .i64 (p.2 : Int)] 73))
      go_wp2_with (at_builtin; refine wpList_append_own _ rfl _ _ 100 rfl w2.heap.size 104 i0 _ 2 16 Tryz.underlying100 hi0 hz0 hz1 hz2 rfl (by decide) _ _ _ rfl (HOa.out.alloc _) ⟨wi.heap.size + 1, 0, none⟩ 1 1 [.int .i64 (p.1 : Int), .int .i64 (p.2 : Int)] rfl rfl ?c1 ?c2 ?c3 ?c4 ?c5 ?_)
      case c1 =>
        intro j u hj
        match j, hj with
        | 0, hj => simp at hj; subst hj; simp [Addr.add, go_sem]
        | 1, hj => simp at hj; subst hj; simp [Addr.add, go_sem]
      case c2 => intro u hu; simp at hu; rcases hu with rfl | rfl <;> rfl
      case c3 => unfold maxLen; omega
      case c4 => omega
      case c5 => simp; omega
      intro v' w3 hown' hgrow _
      have HB4 := hid ((HBa.out.alloc (by simp; omega) _).grown hgrow (by simp; omega) (fun j hj => (HO.out.lt j hj).1))
      have HO4 : Hid (w3.ownsRow w2.heap.size 104 2 v' ((edL n).take (j + 1)).length (prC ((edL n).take (j + 1)))) := hid (by
        rw [HTK.out, prC_snoc, List.length_append, hlen]
        exact hown')
      clear hown' hgrow m0 m1 m2 d0 d1 d2
      go_wp2
      go_roundw
      case rel => exact ⟨j + 1, by omega, by go_num, HO4, HB4⟩
      case measure => simp [intOf]; omega
    · obtain rfl : j = (edL n).length := by omega
      have hdj : decide (((edL n).length : Int) < ((edL n).length : Int)) = false := by simp
      have HO4 : Hid (wi.ownsRow (w.heap.size + 1) 104 2 u3 (edL n).length (prC (edL n))) := hid (by
        have h := HO.out
        rw [List.take_length] at h
        refine ⟨h.1, h.2.imp id ?_⟩
        rintro ⟨g, cap, cur, hv, hB, hg, r⟩
        exact ⟨g, cap, cur, hv, by omega, hg, r⟩)
      go_wp2
      go_ret
      exact ⟨⟨_, rfl, HO4.out⟩, HB2.out.trans (HX.out.mono HB2.out.size)⟩
end Go.Proofs.YtlmmjdaipedjjaaGreatDoor.C
