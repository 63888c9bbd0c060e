/- The program: which node leaves less, all pairs, whether a network is closed. -/
import Derived.Test.YtholffjadnaloaaDoorCloA
import Derived.Test.YtholffjadnaloaaDoorCloB
import Derived.Deep.RegionHeld3
namespace Go.Proofs.YtholffjadnaloaaDoor.C
open Go.RowKit
set_option linter.unusedVariables false
set_option linter.unusedSimpArgs false
/-- a node leaves less -/
def whyP (R : Nat → Nat → Nat) (i k b : Nat) : Bool := triN R i k b != R i k
def whyO (R : Nat → Nat → Nat) (i k n : Nat) : Option Nat := (List.range n).find? (whyP R i k)
def whyN (R : Nat → Nat → Nat) (i k n : Nat) : Nat := (whyO R i k n).getD 0
def whyB (R : Nat → Nat → Nat) (i k n : Nat) : Bool := (whyO R i k n).isSome
theorem why_hit {R : Nat → Nat → Nat} {i k n b : Nat} (hb : b < n) (h : whyP R i k b = true) (H : ∀ x, x < b → whyP R i k x = false) : whyO R i k n = some b := by
  unfold whyO
  rw [List.find?_range_eq_some]
  exact ⟨h, List.mem_range.2 hb, fun j hj => by rw [H j hj]; rfl⟩
theorem why_miss {R : Nat → Nat → Nat} {i k n : Nat} (H : ∀ x, x < n → whyP R i k x = false) : whyO R i k n = none := by
  unfold whyO
  rw [List.find?_range_eq_none]
  exact fun j hj => by rw [H j hj]; rfl
theorem whyB_stb {R : Nat → Nat → Nat} {i k n : Nat} : whyB R i k n = false ↔ stb R i k n := by
  unfold whyB
  rw [Option.isSome_eq_false_iff, Option.isNone_iff_eq_none]
  unfold whyO
  rw [List.find?_range_eq_none]
  constructor
  · intro h b hb
    have := h b hb
    simpa [whyP] using this
  · intro h b hb
    have := h b hb
    simpa [whyP] using this
set_option maxHeartbeats 2000000 in
set_option maxRecDepth 100000 in
theorem narrower_any (o n : Nat) (h6 : n ≤ 6) (R : Nat → Nat → Nat) (hR : ∀ i k, R i k < 8192) (i k : Nat) (hi : i < 6) (hk : k < 6) (w : World) (hC : TC w o) (ho : o < w.heap.size) :
    Calls Tryd.prog 68 #[.agg (netV n R), .pointer (some ⟨o, 0, none⟩), .int .i64 i, .int .i64 k] w fun e w' => e = .returned (.tuple #[.int .i64 ((whyN R i k n : Nat) : Int), .bool (whyB R i k n)]) ∧ Below w.heap.size w w' := by
  have HN := hid (NB.made w n R)
  have HB := hid ((Below.refl w.heap.size w).alloc (Nat.le_refl _) (.cells (netV n R) 70))
  have HC := hid (show TC (w.alloc (.cells (netV n R) 70)) o from fun x hx => (HB.out.cell (p := ⟨o, x, none⟩) ho).trans (hC x hx))
  have ho2 : o < (w.alloc (.cells (netV n R) 70)).heap.size := by rw [World.size_alloc]; omega
  have HR := hid hR
  have i0 : (0 : Int) ≤ (i : Int) := by omega
  have i6 : (i : Int) < 6 := by omega
  have k0 : (0 : Int) ≤ (k : Int) := by omega
  have k6 : (k : Int) < 6 := by omega
  have c0 := HN.out.cell0
  clear hC ho hR
  have HS := AllLt.start w; go_enter Tryd.func68, Tryd.ntmps68
  go_upto_region 1 with fail
  generalize w.alloc (.cells (netV n R) 70) = w2 at *
  go_wp2_with fail
  clear c0
  go_loopw [14] (fun v wr => ∃ b : Nat, b ≤ n ∧ v = .int .i64 b ∧ Hid (∀ x, x < b → whyP R i k x = false) ∧ Hid (Below w2.heap.size w2 wr)) (fun v _ => n - (intOf v).toNat)
  case atStart => exact ⟨0, by omega, rfl, hid (fun x hx => by omega), hid (Below.refl _ _)⟩
  case round =>
    obtain ⟨b, hb, rfl, HF, HX⟩ := hrel
    clear HS
    obtain ⟨wi, rfl⟩ : ∃ wi : World, wi = wr := ⟨_, rfl⟩
    by_cases hbn : b < n
    · have hdb : decide ((b : Int) < (n : Int)) = true := by simp; omega
      have HNi := hid (HN.out.below' HX.out)
      have r0 := NB.run HNi.out
      have c1 := HNi.out.cell hi hk
      have hlt := HNi.out.lt
      have HCi := hid (show TC wi o from fun x hx => (HX.out.cell (p := ⟨o, x, none⟩) ho2).trans (HC.out x hx))
      have hoi : o < wi.heap.size := Nat.lt_of_lt_of_le ho2 HX.out.size
      have HCd := hid (show TC wi.drew o from HCi.out)
      have HOd := hid (show o < wi.drew.heap.size from hoi)
      have hb6 : b < 6 := by omega
      cases hw : whyP R i k b
      · have hq : (((triN R i k b : Nat) : Int) != ((R i k : Nat) : Int)) = false := by
          have : triN R i k b = R i k := by simpa [whyP] using hw
          rw [this]; simp
        have HN2 := hid (show ∀ x, x < b + 1 → whyP R i k x = false from fun x hx => by
          by_cases e : x < b
          · exact HF.out x e
          · obtain rfl : x = b := by omega
            exact hw)
        clear hw
        go_wp2_with fail
        go_region_held3 (fun wx => ((do let b ← isAgg 70; Next.value <$> (if b = true then (do let k ← sizeOf 70; Value.agg <$> loadCellsFrom ⟨w.heap.size, 0, none⟩ 0 k #[]) else Go.load ⟨w.heap.size, 0, none⟩) : Sem Next)).run Tryd.prog wx = .ok (.value (.agg (netV n R))) wx ∧ wx.cell? ⟨w.heap.size, 1 + i * 6 + k, none⟩ = some (.int .i64 ((R i k : Nat) : Int))) (first | exact ⟨NB.run (show NB wi.drew _ _ _ from HNi.out), c1⟩ | exact ⟨NB.run (HNi.out.below' HXx), by rw [HXx.cell (p := ⟨w.heap.size, 1 + i * 6 + k, none⟩) hlt]; exact c1⟩)
          (first | (go_at_call 72; (with_reducible refine (triangle_any o n R HR.out i k b hi hk hb6 _ HCd.out HOd.out).mono ?_); rintro e w' ⟨rfl, hb'⟩; obtain ⟨HXx, hz0, hz, hc, hf⟩ := bst (w0 := wi) (by go_grown) hb'; clear hb' hf hc hz hz0) | fail)
        all_goals
          go_wp2_with fail
          go_roundw
          case rel => exact ⟨b + 1, by omega, by go_num, HN2, hid (HX.out.trans (HXx.mono HX.out.size))⟩
          case measure => simp [intOf]; omega
      · have hq : (((triN R i k b : Nat) : Int) != ((R i k : Nat) : Int)) = true := by
          have : ¬ triN R i k b = R i k := by simpa [whyP] using hw
          rw [bne_iff_ne]; omega
        have HV := hid (why_hit hbn hw HF.out)
        have HV1 := hid (show whyN R i k n = b by rw [whyN, HV.out]; rfl)
        have HV2 := hid (show whyB R i k n = true by rw [whyB, HV.out]; rfl)
        clear hw
        go_wp2_with fail
        go_region_held3 (fun wx => ((do let b ← isAgg 70; Next.value <$> (if b = true then (do let k ← sizeOf 70; Value.agg <$> loadCellsFrom ⟨w.heap.size, 0, none⟩ 0 k #[]) else Go.load ⟨w.heap.size, 0, none⟩) : Sem Next)).run Tryd.prog wx = .ok (.value (.agg (netV n R))) wx ∧ wx.cell? ⟨w.heap.size, 1 + i * 6 + k, none⟩ = some (.int .i64 ((R i k : Nat) : Int))) (first | exact ⟨NB.run (show NB wi.drew _ _ _ from HNi.out), c1⟩ | exact ⟨NB.run (HNi.out.below' HXx), by rw [HXx.cell (p := ⟨w.heap.size, 1 + i * 6 + k, none⟩) hlt]; exact c1⟩)
          (first | (go_at_call 72; (with_reducible refine (triangle_any o n R HR.out i k b hi hk hb6 _ HCd.out HOd.out).mono ?_); rintro e w' ⟨rfl, hb'⟩; obtain ⟨HXx, hz0, hz, hc, hf⟩ := bst (w0 := wi) (by go_grown) hb'; clear hb' hf hc hz hz0) | fail)
        all_goals
          go_wp2_with fail
          go_ret2
          exact ⟨by rw [HV1.out, HV2.out]; rfl, HB.out.trans ((HX.out.trans (HXx.mono HX.out.size)).mono HB.out.size)⟩
    · obtain rfl : b = n := by omega
      have hdb : decide ((b : Int) < (b : Int)) = false := by simp
      have HV := hid (why_miss HF.out)
      have HV1 := hid (show whyN R i k b = 0 by rw [whyN, HV.out]; rfl)
      have HV2 := hid (show whyB R i k b = false by rw [whyB, HV.out]; rfl)
      go_wp2_with fail
      go_ret2
      exact ⟨by rw [HV1.out, HV2.out]; rfl, HB.out.trans (HX.out.mono HB.out.size)⟩
/-- the cells of pairs -/
def prC (l : List (Nat × Nat)) : List Value := l.flatMap fun p => [.int .i64 (p.1 : Int), .int .i64 (p.2 : Int)]
theorem prC_snoc (l : List (Nat × Nat)) (p : Nat × Nat) : prC (l ++ [p]) = prC l ++ [.int .i64 (p.1 : Int), .int .i64 (p.2 : Int)] := by simp [prC]
theorem prC_at : ∀ (l : List (Nat × Nat)) (j : Nat), j < l.length → (prC l)[2 * j]? = some (.int .i64 ((l.getD j (0, 0)).1 : Int)) ∧ (prC l)[2 * j + 1]? = some (.int .i64 ((l.getD j (0, 0)).2 : Int))
  | [], j, h => by simp at h
  | p :: l, 0, _ => by simp [prC]
  | p :: l, j + 1, h => by
    have := prC_at l j (by simpa using h)
    simp only [prC, List.flatMap_cons] at this ⊢
    rw [show 2 * (j + 1) = 2 * j + 1 + 1 by omega, show 2 * j + 1 + 1 + 1 = (2 * j + 1) + 1 + 1 by omega]
    simpa using this
/-- A slice of pairs. -/
def Ps (w : World) (v : Value) (l : List (Nat × Nat)) : Prop :=
  ∃ a cap, v = .slice a l.length cap ∧ ∀ j, j < l.length → ∃ g, a = some ⟨g, 0, none⟩ ∧ g < w.heap.size ∧ w.cell? ⟨g, j * 2, none⟩ = some (.int .i64 ((l.getD j (0, 0)).1 : Int)) ∧ w.cell? ⟨g, j * 2 + 1, none⟩ = some (.int .i64 ((l.getD j (0, 0)).2 : Int))
theorem Ps.of_own {w : World} {v : Value} {l : List (Nat × Nat)} {base : Nat} {T : TypeId} (h : w.ownsRow base T 2 v l.length (prC l)) : Ps w v l := by
  have h0 := h
  rcases h.2 with ⟨rfl, hn⟩ | ⟨g, cap, cur, rfl, hB, hg, h1, h2, h3, h4⟩
  · exact ⟨none, 0, by rw [hn], fun j hj => by omega⟩
  · refine ⟨some ⟨g, 0, none⟩, cap, rfl, fun j hj => ⟨g, rfl, (Array.getElem?_eq_some_iff.1 hg).1, ?_, ?_⟩⟩
    · have ha : ∀ j, (⟨g, 0, none⟩ : Addr).add j = ⟨g, j, none⟩ := fun j => by unfold Addr.add; split <;> simp_all
      have c1 := h0.cells (g := g) rfl (2 * j) _ (prC_at l j hj).1
      rw [ha] at c1
      rw [show j * 2 = 2 * j by omega]; exact c1
    · have ha : ∀ j, (⟨g, 0, none⟩ : Addr).add j = ⟨g, j, none⟩ := fun j => by unfold Addr.add; split <;> simp_all
      have c1 := h0.cells (g := g) rfl (2 * j + 1) _ (prC_at l j hj).2
      rw [ha] at c1
      rw [show j * 2 = 2 * j by omega]; exact c1
theorem pairInfo : (Tryd.prog.info? 168).map (fun i => (i.zero, i.size, i.bytes)) = some (some (.agg #[.int .i64 0, .int .i64 0]), 2, 16) := by kernel_rfl
set_option maxHeartbeats 4000000 in
set_option maxRecDepth 100000 in
theorem pairs_any (n : Nat) (h6 : n ≤ 6) (M : Nat → Nat → Nat) (w : World) :
    Calls Tryd.prog 144 #[.agg (netV n M)] w fun e w' => (∃ v, e = .returned v ∧ w'.ownsRow (w.heap.size + 1) 168 2 v (edL n).length (prC (edL n))) ∧ Below w.heap.size w w' := by
  obtain ⟨i0, hi0, hz0, hz1, hz2⟩ := info_parts pairInfo
  have HN0 := hid (NB.made w n M)
  have HB0 := hid ((Below.refl w.heap.size w).alloc (Nat.le_refl _) (.cells (netV n M) 70))
  have hs1 : (w.alloc (.cells (netV n M) 70)).heap.size = w.heap.size + 1 := World.size_alloc _ _
  have HS := AllLt.start w; go_enter Tryd.func144, Tryd.ntmps144
  go_upto_region 1 with fail
  generalize w.alloc (.cells (netV n M) 70) = w1 at *
  go_wp2_with (refine ld_net rfl _ rfl rfl HN0.out ?_)
  (with_reducible refine (edges_any n h6 M _).mono ?_)
  rintro e w2 ⟨⟨v, rfl, hown⟩, hb⟩
  obtain ⟨a, cap, rfl, hE⟩ := Es.of_own hown
  have HE := hid hE
  have HB2 := hid (HB0.out.trans (hb.mono HB0.out.size))
  have hs2 : w.heap.size + 1 ≤ w2.heap.size := by have := hb.size; omega
  have hl15 := edL_len h6
  clear hown hE hb
  go_wp2_with fail
  go_loopw [3, 9] (fun v x wr => ∃ j : Nat, j ≤ (edL n).length ∧ x = .int .i64 j ∧ Hid (wr.ownsRow w2.heap.size 168 2 v ((edL n).take j).length (prC ((edL n).take j))) ∧ Hid (Below w2.heap.size w2 wr)) (fun _ x _ => (edL n).length - (intOf x).toNat)
  case atStart => exact ⟨0, by omega, rfl, hid (World.ownsRow_nil _ _ _ _), hid (Below.refl _ _)⟩
  case round =>
    obtain ⟨j, hj, rfl, HO, HX⟩ := hrel
    clear HS
    obtain ⟨wi, rfl⟩ : ∃ wi : World, wi = wr := ⟨_, rfl⟩
    by_cases hjl : j < (edL n).length
    · have hdj : decide ((j : Int) < ((edL n).length : Int)) = true := by simp; omega
      have hdk : decide (j < (edL n).length) = true := by simp; omega
      obtain ⟨g, rfl, hg, c0, c1, c2⟩ := HE.out j hjl
      have d0 : wi.cell? ⟨g, j * 3, none⟩ = _ := (HX.out.cell (p := ⟨g, j * 3, none⟩) hg).trans c0
      have d1 : wi.cell? ⟨g, j * 3 + 1, none⟩ = _ := (HX.out.cell (p := ⟨g, j * 3 + 1, none⟩) hg).trans c1
      have d2 : wi.cell? ⟨g, j * 3 + 2, none⟩ = _ := (HX.out.cell (p := ⟨g, j * 3 + 2, none⟩) hg).trans c2
      have HTK := hid (takeP _ _ hjl)
      have hlen : ((edL n).take j).length = j := by rw [List.length_take]; omega
      clear c0 c1 c2
      generalize M ((edL n).getD j (0, 0)).1 ((edL n).getD j (0, 0)).2 = r at *
      generalize hp : (edL n).getD j (0, 0) = p at *
      clear hp
      have hzz := HX.out.size
      obtain ⟨m0, m1, m2⟩ := new_cell3 wi (.int .i64 (p.1 : Int)) (.int .i64 (r : Int)) (.int .i64 (p.2 : Int)) 75
      have HOa := hid ((HO.out.alloc (.cells #[.int .i64 (p.1 : Int), .int .i64 (r : Int), .int .i64 (p.2 : Int)] 75)))
      have HBa := hid (HX.out.alloc hzz (.cells #[.int .i64 (p.1 : Int), .int .i64 (r : Int), .int .i64 (p.2 : Int)] 75))
      go_wp2_with (at_builtin; refine wpList_append_own _ rfl _ _ 166 rfl w2.heap.size 168 i0 _ 2 16 Tryd.underlying166 hi0 hz0 hz1 hz2 rfl (by decide) _ _ _ rfl (HOa.out.alloc _) ⟨wi.heap.size + 1, 0, none⟩ 1 1 [.int .i64 (p.1 : Int), .int .i64 (p.2 : Int)] rfl rfl ?c1 ?c2 ?c3 ?c4 ?c5 ?_)
      case c1 =>
        intro j u hj
        match j, hj with
        | 0, hj => simp at hj; subst hj; simp [Addr.add, go_sem]
        | 1, hj => simp at hj; subst hj; simp [Addr.add, go_sem]
      case c2 => intro u hu; simp at hu; rcases hu with rfl | rfl <;> rfl
      case c3 => unfold maxLen; omega
      case c4 => omega
      case c5 => simp; omega
      intro v' w3 hown' hgrow _
      have HB4 := hid ((HBa.out.alloc (by simp; omega) _).grown hgrow (by simp; omega) (fun j hj => (HO.out.lt j hj).1))
      have HO4 : Hid (w3.ownsRow w2.heap.size 168 2 v' ((edL n).take (j + 1)).length (prC ((edL n).take (j + 1)))) := hid (by
        rw [HTK.out, prC_snoc, List.length_append, hlen]
        exact hown')
      clear hown' hgrow m0 m1 m2 d0 d1 d2
      go_wp2
      go_roundw
      case rel => exact ⟨j + 1, by omega, by go_num, HO4, HB4⟩
      case measure => simp [intOf]; omega
    · obtain rfl : j = (edL n).length := by omega
      have hdj : decide (((edL n).length : Int) < ((edL n).length : Int)) = false := by simp
      have HO4 : Hid (wi.ownsRow (w.heap.size + 1) 168 2 u3 (edL n).length (prC (edL n))) := hid (by
        have h := HO.out
        rw [List.take_length] at h
        refine ⟨h.1, h.2.imp id ?_⟩
        rintro ⟨g, cap, cur, hv, hB, hg, r⟩
        exact ⟨g, cap, cur, hv, by omega, hg, r⟩)
      go_wp2
      go_ret
      exact ⟨⟨_, rfl, HO4.out⟩, HB2.out.trans (HX.out.mono HB2.out.size)⟩
set_option maxHeartbeats 2000000 in
set_option maxRecDepth 100000 in
theorem idxP_any (C : Nat) (hcf : ∀ (args : Array Value) (w : World), (callFunc C args).run Tryd.prog w = .ok (.enter C args) w) (c d : Value) (l : List (Nat × Nat)) (f : Nat × Nat → Bool) (v : Value) (w : World) (hl : l.length ≤ 15) (hE : Ps w v l)
    (hC : ∀ j, j < l.length → ∀ w1, Below w.heap.size w w1 → Calls Tryd.prog C #[.agg #[.int .i64 ((l.getD j (0, 0)).1 : Int), .int .i64 ((l.getD j (0, 0)).2 : Int)], c, d] w1 fun e w' => e = .returned (.bool (f (l.getD j (0, 0)))) ∧ Below w1.heap.size w1 w') :
    Calls Tryd.prog 167 #[v, .func (.func C) #[] #[c, d]] w (AnyAt (l.any f) w) := by
  obtain ⟨a, cap, rfl, hE⟩ := hE
  have HE := hid hE
  have HC := hid hC
  clear hE hC
  have HS := AllLt.start w; go_enter Tryd.func167, Tryd.ntmps167
  go_wp2_with fail
  go_loopw [8] (fun v wr => ∃ j : Nat, j ≤ l.length ∧ v = .int .i64 j ∧ Hid (∀ x ∈ l.take j, f x = false) ∧ Hid (Below w.heap.size w wr)) (fun v _ => l.length - (intOf v).toNat)
  case atStart => exact ⟨0, by omega, rfl, hid (by simp), hid (Below.refl _ _)⟩
  case round =>
    obtain ⟨j, hj, rfl, HF, HB⟩ := hrel
    clear HS
    obtain ⟨wi, rfl⟩ : ∃ wi : World, wi = wr := ⟨_, rfl⟩
    by_cases hjl : j < l.length
    · have hdj : decide ((j : Int) < (l.length : Int)) = true := by simp; omega
      have hdk : decide (j < l.length) = true := by simp; omega
      obtain ⟨g, rfl, hg, c0, c1⟩ := HE.out j hjl
      have d0 : wi.cell? ⟨g, j * 2, none⟩ = _ := (HB.out.cell (p := ⟨g, j * 2, none⟩) hg).trans c0
      have d1 : wi.cell? ⟨g, j * 2 + 1, none⟩ = _ := (HB.out.cell (p := ⟨g, j * 2 + 1, none⟩) hg).trans c1
      have HCj := hid (HC.out j hjl wi HB.out)
      clear c0 c1
      cases hf : f (l.getD j (0, 0))
      · have HN := hid (take_miss hjl HF.out hf)
        generalize l.getD j (0, 0) = p at *
        have HV := hid hf
        clear hf
        go_wp2_with fail
        (with_reducible refine HCj.out.mono ?_)
        rintro e w2 ⟨rfl, hb⟩
        rw [HV.out]
        have HB2 := hid (HB.out.trans (hb.mono HB.out.size))
        clear hb d0 d1
        go_wp2_with fail
        go_roundw
        case rel => exact ⟨j + 1, by omega, by go_num, HN, HB2⟩
        case measure => simp [intOf]; omega
      · have HN := hid (any_hit hjl hf)
        generalize l.getD j (0, 0) = p at *
        have HV := hid hf
        clear hf
        go_wp2_with fail
        (with_reducible refine HCj.out.mono ?_)
        rintro e w2 ⟨rfl, hb⟩
        rw [HV.out]
        have HB2 := hid (HB.out.trans (hb.mono HB.out.size))
        clear hb d0 d1
        go_wp2_with fail
        go_ret
        exact ⟨j, fun _ => by omega, fun h => by (rw [HN.out] at h; cases h), rfl, HB2.out⟩
    · obtain rfl : j = l.length := by omega
      have hdj : decide ((l.length : Int) < (l.length : Int)) = false := by simp
      have HN := hid (any_miss HF.out)
      go_wp2_with fail
      go_ret
      exact ⟨-1, fun h => by (rw [HN.out] at h; cases h), fun _ => rfl, rfl, HB.out⟩
set_option maxRecDepth 100000 in
theorem contP_any (C : Nat) (hcf : ∀ (args : Array Value) (w : World), (callFunc C args).run Tryd.prog w = .ok (.enter C args) w) (c d : Value) (l : List (Nat × Nat)) (f : Nat × Nat → Bool) (v : Value) (w : World) (hl : l.length ≤ 15) (hE : Ps w v l)
    (hC : ∀ j, j < l.length → ∀ w1, Below w.heap.size w w1 → Calls Tryd.prog C #[.agg #[.int .i64 ((l.getD j (0, 0)).1 : Int), .int .i64 ((l.getD j (0, 0)).2 : Int)], c, d] w1 fun e w' => e = .returned (.bool (f (l.getD j (0, 0)))) ∧ Below w1.heap.size w1 w') :
    Calls Tryd.prog 143 #[v, .func (.func C) #[] #[c, d]] w fun e w' => e = .returned (.bool (l.any f)) ∧ Below w.heap.size w w' := by
  have HI := hid (idxP_any C hcf c d l f v w hl hE hC)
  clear hE hC
  cases hb : l.any f
  all_goals
    have HV := hid hb
    clear hb
    have HS := AllLt.start w; go_enter Tryd.func143, Tryd.ntmps143
    go_wp2_with fail
    (with_reducible refine HI.out.mono ?_)
    rintro e w2 ⟨z, hz1, hz2, rfl, hb⟩
  · obtain rfl := hz2 HV.out
    have HB := hid hb
    clear hb hz1 hz2
    go_wp2_with fail
    go_ret
    exact ⟨rfl, HB.out⟩
  · have hz := hz1 HV.out
    have hd : decide (0 ≤ z) = true := by simp; omega
    have HB := hid hb
    clear hb hz1 hz2
    go_wp2_with fail
    go_ret
    exact ⟨rfl, HB.out⟩
end Go.Proofs.YtholffjadnaloaaDoor.C
