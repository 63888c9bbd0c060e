/- The program's check of a network. -/
import Derived.Test.YtlmmjdaipedjjaaDoorNetH
namespace Go.Proofs.YtlmmjdaipedjjaaDoor.C
open Go.RowKit
set_option linter.unusedVariables false
set_option linter.unusedSimpArgs false
theorem own_edge {M : Nat → Nat → Nat} {w : World} {base n g cap : Nat} {l : List (Nat × Nat)} {T : TypeId} (h : w.ownsRow base T 3 (.slice (some ⟨g, 0, none⟩) n cap) n (edC M l)) {j : Nat} (hj : j < l.length) :
    w.cell? ⟨g, j * 3, none⟩ = some (.int .i64 ((l.getD j (0, 0)).1 : Int)) ∧ w.cell? ⟨g, j * 3 + 1, none⟩ = some (.int .i64 ((M (l.getD j (0, 0)).1 (l.getD j (0, 0)).2 : Nat) : Int)) ∧ w.cell? ⟨g, j * 3 + 2, none⟩ = some (.int .i64 ((l.getD j (0, 0)).2 : Int)) := by
  obtain ⟨h1, h2, h3⟩ := edC_at M l j hj
  have ha : ∀ j, (⟨g, 0, none⟩ : Addr).add j = ⟨g, j, none⟩ := fun j => by unfold Addr.add; split <;> simp_all
  have c1 := h.cells (g := g) rfl _ _ h1
  have c2 := h.cells (g := g) rfl _ _ h2
  have c3 := h.cells (g := g) rfl _ _ h3
  rw [ha] at c1 c2 c3
  rw [show j * 3 = 3 * j by omega]
  exact ⟨c1, c2, c3⟩
/-- A slice of edges that reads as a list, wherever it lies. -/
def Es (w : World) (v : Value) (M : Nat → Nat → Nat) (l : List (Nat × Nat)) : Prop :=
  ∃ a cap, v = .slice a l.length cap ∧ ∀ j, j < l.length → ∃ g, a = some ⟨g, 0, none⟩ ∧ g < w.heap.size ∧ w.cell? ⟨g, j * 3, none⟩ = some (.int .i64 ((l.getD j (0, 0)).1 : Int)) ∧ w.cell? ⟨g, j * 3 + 1, none⟩ = some (.int .i64 ((M (l.getD j (0, 0)).1 (l.getD j (0, 0)).2 : Nat) : Int)) ∧ w.cell? ⟨g, j * 3 + 2, none⟩ = some (.int .i64 ((l.getD j (0, 0)).2 : Int))
theorem Es.of_own {w : World} {v : Value} {M : Nat → Nat → Nat} {l : List (Nat × Nat)} {base : Nat} {T : TypeId} (h : w.ownsRow base T 3 v l.length (edC M l)) : Es w v M l := by
  have h0 := h
  rcases h.2 with ⟨rfl, hn⟩ | ⟨g, cap, cur, rfl, hB, hg, h1, h2, h3, h4⟩
  · exact ⟨none, 0, by rw [hn], fun i hi => by omega⟩
  · exact ⟨_, cap, rfl, fun i hi => ⟨g, rfl, (Array.getElem?_eq_some_iff.1 hg).1, own_edge h0 hi⟩⟩
theorem new_cell3 (w : World) (x y z : Value) (t : TypeId) : (w.alloc (.cells #[x, y, z] t)).cell? ⟨w.heap.size, 0, none⟩ = some x ∧ (w.alloc (.cells #[x, y, z] t)).cell? ⟨w.heap.size, 1, none⟩ = some y ∧ (w.alloc (.cells #[x, y, z] t)).cell? ⟨w.heap.size, 2, none⟩ = some z := by simp [go_sem]
/-- what a network is asked: itself, and each edge from both nodes -/
def sndB (n : Nat) (M : Nat → Nat → Nat) : Bool := (List.range n).all (fun i => decide (M i i = 64)) && (edL n).all fun p => decide (M p.2 p.1 = turN (M p.1 p.2))
set_option maxHeartbeats 4000000 in
set_option maxRecDepth 100000 in
theorem isSound_any (n : Nat) (h6 : n ≤ 6) (M : Nat → Nat → Nat) (hM : ∀ i k, M i k < 8192) (w : World) (hT : TB w) :
    Calls Tryd.prog 82 #[.agg (netV n M)] w fun e w' => e = .returned (.bool (sndB n M)) ∧ Below w.heap.size w w' := by
  have HT := hid hT
  clear hT
  have HN0 := hid (NB.made w n M)
  have hc0 := HN0.out.cell0
  have hfd := fld1
  have HS := AllLt.start w; go_enter Tryd.func82, Tryd.ntmps82
  go_wp2_with fail
  go_loopw [9] (fun a wr => ∃ i : Nat, i ≤ n ∧ a = .int .i64 i ∧ Hid (∀ j, j < i → M j j = 64) ∧ Hid (NB wr w.heap.size n M) ∧ Hid (Below w.heap.size w wr)) (fun a _ => n - (intOf a).toNat)
  case atStart => exact ⟨0, by omega, rfl, hid (fun j hj => by omega), HN0, hid ((Below.refl _ _).alloc (Nat.le_refl _) _)⟩
  case round =>
    obtain ⟨i, hi, rfl, HF, HN, HB⟩ := hrel
    clear HS HN0 hc0
    obtain ⟨wi, rfl⟩ : ∃ wi : World, wi = wr := ⟨_, rfl⟩
    by_cases hin : i < n
    · have hdi : decide ((i : Int) < (n : Int)) = true := by simp; omega
      go_wp2_with (refine ld_net rfl _ rfl rfl HN.out ?_)
      (with_reducible refine (edge_any n M i i (by omega) (by omega) _).mono ?_)
      rintro e w2 ⟨rfl, hb⟩
      have HN2 := hid (HN.out.below' hb)
      have HB2 := hid (HB.out.trans (hb.mono HB.out.size))
      by_cases e : M i i = 64
      · have hq : (((M i i : Nat) : Int) != 64) = false := by rw [e]; rfl
        have HF2 := hid (show ∀ j, j < i + 1 → M j j = 64 from fun j hj => by
          by_cases ej : j = i
          · rw [ej]; exact e
          · exact HF.out j (by omega))
        clear e HF
        go_wp2
        go_roundw
        case rel => exact ⟨i + 1, by omega, by go_num, HF2, HN2, HB2⟩
        case measure => simp [intOf]; omega
      · have hq : (((M i i : Nat) : Int) != 64) = true := by rw [bne_iff_ne]; omega
        have HR := hid (show sndB n M = false by
          unfold sndB
          rw [Bool.and_eq_false_iff]
          left
          rw [List.all_eq_false]
          exact ⟨i, List.mem_range.2 hin, by simpa using e⟩)
        clear e HF
        go_wp2
        go_ret
        exact ⟨ret_bool HR.out.symm, HB2.out⟩
    · obtain rfl : i = n := by omega
      have hdi : decide ((i : Int) < (i : Int)) = false := by simp
      go_wp2_with (refine ld_net rfl _ rfl rfl HN.out ?_)
      (with_reducible refine (edges_any i h6 M _).mono ?_)
      rintro e w2 ⟨⟨v, rfl, hown⟩, hb⟩
      have HE := Es.of_own hown
      obtain ⟨a, cap, rfl, hE⟩ := HE
      have HE2 := hid hE
      have HN2 := hid (HN.out.below' hb)
      have HB2 := hid (HB.out.trans (hb.mono HB.out.size))
      have hl15 := edL_len h6
      clear hown hE hb
      go_wp2_with fail
      go_loopw [22] (fun a wr => ∃ j : Nat, j ≤ (edL i).length ∧ a = .int .i64 j ∧ Hid (∀ q, q < j → M ((edL i).getD q (0, 0)).2 ((edL i).getD q (0, 0)).1 = turN (M ((edL i).getD q (0, 0)).1 ((edL i).getD q (0, 0)).2)) ∧ Hid (NB wr w.heap.size i M) ∧ Hid (Below w2.heap.size w2 wr)) (fun a _ => (edL i).length - (intOf a).toNat)
      case atStart => exact ⟨0, by omega, rfl, hid (fun j hj => by omega), HN2, hid (Below.refl _ _)⟩
      case round =>
        obtain ⟨j, hj, rfl, HG, HN3, HB3⟩ := hrel
        obtain ⟨wj, rfl⟩ : ∃ wj : World, wj = wr := ⟨_, rfl⟩
        by_cases hjl : j < (edL i).length
        · have hdj : decide ((j : Int) < ((edL i).length : Int)) = true := by simp; omega
          have hdk : decide (j < (edL i).length) = true := by simp; omega
          obtain ⟨g, rfl, hg, c0, c1, c2⟩ := HE2.out j hjl
          have HAT := hid (edL_at hjl)
          have HG2 := hid (show ∀ q, M ((edL i).getD j (0, 0)).2 ((edL i).getD j (0, 0)).1 = turN (M ((edL i).getD j (0, 0)).1 ((edL i).getD j (0, 0)).2) → q < j + 1 → M ((edL i).getD q (0, 0)).2 ((edL i).getD q (0, 0)).1 = turN (M ((edL i).getD q (0, 0)).1 ((edL i).getD q (0, 0)).2) from fun q h hq => by
            by_cases eq : q = j
            · rw [eq]; exact h
            · exact HG.out q (by omega))
          generalize (edL i).getD j (0, 0) = p at *
          obtain ⟨x, y⟩ := p
          obtain ⟨hxy, hyi⟩ := HAT.out
          simp only at c0 c1 c2 hxy hyi HG2
          have d0 : wj.cell? ⟨g, j * 3, none⟩ = some (.int .i64 (x : Int)) := by rw [HB3.out.cell (p := ⟨g, j * 3, none⟩) hg]; exact c0
          have d1 : wj.cell? ⟨g, j * 3 + 1, none⟩ = some (.int .i64 ((M x y : Nat) : Int)) := by rw [HB3.out.cell (p := ⟨g, j * 3 + 1, none⟩) hg]; exact c1
          have d2 : wj.cell? ⟨g, j * 3 + 2, none⟩ = some (.int .i64 (y : Int)) := by rw [HB3.out.cell (p := ⟨g, j * 3 + 2, none⟩) hg]; exact c2
          clear c0 c1 c2
          go_wp2_with fail
          have n64 := HN3.out.lt
          have HNa := hid (HN3.out.alloc (.cells #[.int .i64 x, .int .i64 ((M x y : Nat) : Int), .int .i64 y] 83))
          have HBa := hid (((Below.refl wj.heap.size wj).alloc (Nat.le_refl _) (.cells #[.int .i64 x, .int .i64 ((M x y : Nat) : Int), .int .i64 y] 83)))
          have HTa := hid (HT.out.below ((HB2.out.trans (HB3.out.mono HB2.out.size)).trans (HBa.out.mono (by have := HB3.out.size; have := HB2.out.size; omega))))
          have e0 := new_cell3 wj (.int .i64 x) (.int .i64 ((M x y : Nat) : Int)) (.int .i64 y) 83
          have hzz : wj.heap.size < (wj.alloc (.cells #[.int .i64 x, .int .i64 ((M x y : Nat) : Int), .int .i64 y] 83)).heap.size := by simp
          generalize hwa : wj.alloc (.cells #[.int .i64 x, .int .i64 ((M x y : Nat) : Int), .int .i64 y] 83) = wa at *
          obtain ⟨e0, e1, e2⟩ := e0
          have HNc := NB.run HNa.out
          by_cases e : M y x = turN (M x y)
          · have hq1 : (((M y x : Nat) : Int) == ((turN (M x y) : Nat) : Int)) = true := by rw [e]; simp
            have HG3 := hid (fun q hq => HG2.out q e hq)
            clear e
            go_region_held3 (fun wx => ((do let b ← isAgg 53; Next.value <$> (if b = true then (do let k ← sizeOf 53; Value.agg <$> loadCellsFrom ⟨w.heap.size, 0, none⟩ 0 k #[]) else Go.load ⟨w.heap.size, 0, none⟩) : Sem Next)).run Tryd.prog wx = .ok (.value (.agg (netV i M))) wx ∧ wx.cell? ⟨wj.heap.size, 0, none⟩ = some (.int .i64 x) ∧ wx.cell? ⟨wj.heap.size, 1, none⟩ = some (.int .i64 ((M x y : Nat) : Int)) ∧ wx.cell? ⟨wj.heap.size, 2, none⟩ = some (.int .i64 y)) (first | exact ⟨NB.run (show NB wa.drew _ _ _ from HNa.out), e0, e1, e2⟩ | exact ⟨NB.run (HNa.out.below' HX), by rw [HX.cell (p := ⟨wj.heap.size, 0, none⟩) hzz]; exact e0, by rw [HX.cell (p := ⟨wj.heap.size, 1, none⟩) hzz]; exact e1, by rw [HX.cell (p := ⟨wj.heap.size, 2, none⟩) hzz]; exact e2⟩)
              (first | (go_at_call 72; (with_reducible refine (edge_any i M y x (by omega) (by omega) _).mono ?_); rintro e w' ⟨rfl, hb⟩; obtain ⟨HX, hz0, hz, hc, hf⟩ := bst (w0 := wa) (by go_grown) hb; clear hb hf hc hz hz0) | (go_at_call 115; (with_reducible refine (eturn_any x (M x y) y (hM _ _) _ (HTa.out.below (by go_grown))).mono ?_); rintro e w' ⟨rfl, hb⟩; obtain ⟨HX, hz0, hz, hc, hf⟩ := bst (w0 := wa) (by go_grown) hb; clear hb hf hc hz hz0) | fail)
            all_goals
              go_wp2
              have HBy := hid (HX.mono (show wj.heap.size ≤ wa.heap.size from HBa.out.size))
              have HBz := hid (HB3.out.trans (Below.mono (HBa.out.trans HBy.out) HB3.out.size))
              go_roundw
              case rel => exact ⟨j + 1, by omega, by go_num, HG3, hid (HNa.out.below' HX), HBz⟩
              case measure => simp [intOf]; omega
          · have hq1 : (((M y x : Nat) : Int) == ((turN (M x y) : Nat) : Int)) = false := by rw [beq_eq_false_iff_ne]; omega
            have HR := hid (show sndB i M = false by
              unfold sndB
              rw [Bool.and_eq_false_iff]
              right
              rw [List.all_eq_false]
              exact ⟨(x, y), edL_mem.2 ⟨hxy, hyi⟩, by simpa using e⟩)
            clear e
            go_region_held3 (fun wx => ((do let b ← isAgg 53; Next.value <$> (if b = true then (do let k ← sizeOf 53; Value.agg <$> loadCellsFrom ⟨w.heap.size, 0, none⟩ 0 k #[]) else Go.load ⟨w.heap.size, 0, none⟩) : Sem Next)).run Tryd.prog wx = .ok (.value (.agg (netV i M))) wx ∧ wx.cell? ⟨wj.heap.size, 0, none⟩ = some (.int .i64 x) ∧ wx.cell? ⟨wj.heap.size, 1, none⟩ = some (.int .i64 ((M x y : Nat) : Int)) ∧ wx.cell? ⟨wj.heap.size, 2, none⟩ = some (.int .i64 y)) (first | exact ⟨NB.run (show NB wa.drew _ _ _ from HNa.out), e0, e1, e2⟩ | exact ⟨NB.run (HNa.out.below' HX), by rw [HX.cell (p := ⟨wj.heap.size, 0, none⟩) hzz]; exact e0, by rw [HX.cell (p := ⟨wj.heap.size, 1, none⟩) hzz]; exact e1, by rw [HX.cell (p := ⟨wj.heap.size, 2, none⟩) hzz]; exact e2⟩)
              (first | (go_at_call 72; (with_reducible refine (edge_any i M y x (by omega) (by omega) _).mono ?_); rintro e w' ⟨rfl, hb⟩; obtain ⟨HX, hz0, hz, hc, hf⟩ := bst (w0 := wa) (by go_grown) hb; clear hb hf hc hz hz0) | (go_at_call 115; (with_reducible refine (eturn_any x (M x y) y (hM _ _) _ (HTa.out.below (by go_grown))).mono ?_); rintro e w' ⟨rfl, hb⟩; obtain ⟨HX, hz0, hz, hc, hf⟩ := bst (w0 := wa) (by go_grown) hb; clear hb hf hc hz hz0) | fail)
            all_goals
              go_wp2
              have HBy := hid (HX.mono (show wj.heap.size ≤ wa.heap.size from HBa.out.size))
              have HBz := hid (HB3.out.trans (Below.mono (HBa.out.trans HBy.out) HB3.out.size))
              go_ret
              exact ⟨ret_bool HR.out.symm, HB2.out.trans (HBz.out.mono HB2.out.size)⟩
        · obtain rfl : j = (edL i).length := by omega
          have hdj : decide (((edL i).length : Int) < ((edL i).length : Int)) = false := by simp
          have HR := hid (show sndB i M = true by
            unfold sndB
            rw [Bool.and_eq_true]
            refine ⟨List.all_eq_true.2 fun q hq => decide_eq_true (HF.out q (List.mem_range.1 hq)), List.all_eq_true.2 fun p hp => decide_eq_true ?_⟩
            obtain ⟨q, hq, e⟩ := List.getElem_of_mem hp
            have := HG.out q hq
            rw [List.getD_eq_getElem?_getD, List.getElem?_eq_getElem hq, Option.getD_some, e] at this
            exact this)
          go_wp2
          go_ret
          exact ⟨ret_bool HR.out.symm, HB2.out.trans (HB3.out.mono HB2.out.size)⟩
end Go.Proofs.YtlmmjdaipedjjaaDoor.C
