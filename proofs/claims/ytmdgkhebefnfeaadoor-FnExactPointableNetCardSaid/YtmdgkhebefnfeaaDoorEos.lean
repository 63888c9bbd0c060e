/- Chapter 4: which orders of ends a relation allows: the program's walk. -/
import Derived.Test.YtmdgkhebefnfeaaDoorLsg
import Derived.Test.YtmdgkhebefnfeaaDoorCmpS
import Derived.Test.YtmdgkhebefnfeaaDoorEndsX
import Derived.Deep.RegionWith
import Derived.Deep.RegionHeld3
namespace Go.Proofs.YtmdgkhebefnfeaaDoor.C
open Go.RowKit
set_option linter.unusedVariables false
set_option linter.unusedSimpArgs false
/-- Four sets of orders in a block. -/
structure F4 (w : World) (b : Nat) (f : Nat → Int) : Prop where
  c : ∀ i, i < 4 → w.cell? ⟨b, i, none⟩ = some (.int .i64 (f i))
  f : ∀ i, w.frozen? ⟨b, i, none⟩ = false
  lt : b < w.heap.size
theorem F4.below {w w' : World} {b : Nat} {f : Nat → Int} (h : F4 w b f) (hb : Below w.heap.size w w') : F4 w' b f :=
  ⟨fun i hi => (hb.cell (p := ⟨b, i, none⟩) h.lt).trans (h.c i hi), fun i => (hb.frozen (p := ⟨b, i, none⟩) h.lt).trans (h.f i), Nat.lt_of_lt_of_le h.lt hb.size⟩
theorem F4.set {w : World} {b p : Nat} {f : Nat → Int} (h : F4 w b f) (hp : p < 4) (v : Int) : F4 (w.setCell ⟨b, p, none⟩ (.int .i64 v)) b (fun i => if i = p then v else f i) := by
  refine ⟨fun i hi => ?_, fun i => by simp [go_sem, h.f i], by simpa using h.lt⟩
  by_cases e : i = p
  · subst e
    rw [if_pos rfl]
    simp [go_sem, h.c i hi]
  · have e2 : ¬ p = i := fun h => e h.symm
    rw [if_neg e]
    simp [go_sem, e, e2, h.c i hi]
theorem F4.congr {w : World} {b : Nat} {f g : Nat → Int} (h : F4 w b f) (e : ∀ i, i < 4 → f i = g i) : F4 w b g := ⟨fun i hi => by rw [← e i hi]; exact h.c i hi, h.f, h.lt⟩
/-- .. under way: the first p are done -/
def mixF (f : Nat → Int) (k p : Nat) (i : Nat) : Int := if i < p then bor (f i) (eoF k i) else f i
def esA (l : List Nat) (i : Nat) : Int := esF (fun k => eoF k i) l
theorem esA_snoc (l : List Nat) (k i : Nat) : esA (l ++ [k]) i = bor (esA l i) (eoF k i) := esF_snoc _ _ _
theorem eo_ord (k i : Nat) : Ord (eoF k i) := by
  unfold eoF
  split <;> exact ord_Ord _ _
theorem ie_at (k p : Nat) (hp : p < 4) (w : World) : (Instr.index 164 (.agg #[.int .i64 (ord (zf k) 1), .int .i64 (ord (zf k) 3), .int .i64 (ord (zt k) 1), .int .i64 (ord (zt k) 3)]) (.int .i64 p)).run Tryd.prog w = .ok (.int .i64 (eoF k p)) w := by
  obtain rfl | rfl | rfl | rfl : p = 0 ∨ p = 1 ∨ p = 2 ∨ p = 3 := by omega
  all_goals kernel_rfl
set_option maxHeartbeats 4000000 in
set_option maxRecDepth 100000 in
theorem endSets_any (n : Nat) (hn : n < 8192) (w : World) (hT : TB w) :
    Calls Tryd.prog 124 #[.int .i64 n] w fun e w' => e = .returned (.agg #[.int .i64 (es0 n), .int .i64 (es1 n), .int .i64 (es2 n), .int .i64 (es3 n)]) ∧ Below w.heap.size w w' := by
  have HT := hid hT
  clear hT
  have HN : Hid (es0 n = esA (bl n.testBit 13) 0 ∧ es1 n = esA (bl n.testBit 13) 1 ∧ es2 n = esA (bl n.testBit 13) 2 ∧ es3 n = esA (bl n.testBit 13) 3) := hid ⟨rfl, rfl, rfl, rfl⟩
  have HS := AllLt.start w; go_enter Tryd.func124, Tryd.ntmps124
  go_wp2_with fail
  have hb0 : Below w.heap.size w ((w.alloc (.cells #[.int .i64 0, .int .i64 0, .int .i64 0, .int .i64 0] 107)).alloc (.cells #[.int .i64 0, .int .i64 0, .int .i64 0, .int .i64 0] 107)) := by (repeat' (first | (with_reducible exact Below.refl _ _) | (with_reducible refine Below.setCell ?_ ?_ _) | (with_reducible refine below_drewN' ?_ _) | (with_reducible refine below_drew' ?_) | (with_reducible refine Below.alloc ?_ ?_ _) | (with_reducible assumption) | go_size))
  have hf0 : F4 ((w.alloc (.cells #[.int .i64 0, .int .i64 0, .int .i64 0, .int .i64 0] 107)).alloc (.cells #[.int .i64 0, .int .i64 0, .int .i64 0, .int .i64 0] 107)) (w.heap.size + 1) (esA []) := ⟨four (by simp [go_sem]; rfl) (by simp [go_sem]; rfl) (by simp [go_sem]; rfl) (by simp [go_sem]; rfl), fun i => by simp [go_sem], by rw [World.size_alloc, World.size_alloc]; omega⟩
  have hr0 : F4 ((w.alloc (.cells #[.int .i64 0, .int .i64 0, .int .i64 0, .int .i64 0] 107)).alloc (.cells #[.int .i64 0, .int .i64 0, .int .i64 0, .int .i64 0] 107)) w.heap.size (fun _ => 0) := ⟨four (by simp [go_sem]) (by simp [go_sem]) (by simp [go_sem]) (by simp [go_sem]), fun i => by simp [go_sem], by rw [World.size_alloc, World.size_alloc]; omega⟩
  have hW : ((w.alloc (.cells #[.int .i64 0, .int .i64 0, .int .i64 0, .int .i64 0] 107)).alloc (.cells #[.int .i64 0, .int .i64 0, .int .i64 0, .int .i64 0] 107)).heap.size = w.heap.size + 2 := by simp
  generalize ((w.alloc (.cells #[.int .i64 0, .int .i64 0, .int .i64 0, .int .i64 0] 107)).alloc (.cells #[.int .i64 0, .int .i64 0, .int .i64 0, .int .i64 0] 107)) = W at *
  (with_reducible refine (basics_any n hn _ (HT.out.below hb0)).mono ?_)
  rintro e w3 ⟨v, rfl, ho, hb3⟩
  obtain ⟨a, cap, rfl, h3⟩ := ho.ls2
  have hl13 := bl_len n.testBit 13
  have hlt : ∀ x ∈ bl n.testBit 13, x < 13 := fun x hx => bl_lt hx
  generalize bl n.testBit 13 = l at *
  have HI : Hid (F4 w3 (w.heap.size + 1) (esA []) ∧ F4 w3 w.heap.size (fun _ => 0) ∧ (∀ i, i < l.length → ∃ g, a = some ⟨g, 0, none⟩ ∧ g < w3.heap.size ∧ w.heap.size + 1 < g ∧ w3.cell? ⟨g, i, none⟩ = some (.int .i64 ((l.getD i 0 : Nat) : Int))) ∧ Below w.heap.size w w3) := hid
    ⟨hf0.below hb3, hr0.below hb3, fun i hi => by obtain ⟨g, e1, e2, e3, e4⟩ := h3 i hi; exact ⟨g, e1, e3, by omega, e4⟩, hb0.trans (hb3.mono hb0.size)⟩
  clear hf0 hr0 hb0 ho hb3 h3 hW
  have hS : Hid (w.heap.size ≤ w.heap.size + 1) := hid (by omega)
  generalize hSe : w.heap.size + 1 = S at *
  go_wp2
  go_loopw [11] (fun i wr => ∃ k : Nat, k ≤ l.length ∧ i = .int .i64 k ∧ Hid (F4 wr S (esA (l.take k)) ∧ F4 wr w.heap.size (fun _ => 0) ∧ (∀ i, i < l.length → ∃ g, a = some ⟨g, 0, none⟩ ∧ g < wr.heap.size ∧ S < g ∧ wr.cell? ⟨g, i, none⟩ = some (.int .i64 ((l.getD i 0 : Nat) : Int))) ∧ Below w.heap.size w wr)) (fun i _ => l.length - (intOf i).toNat)
  case atStart => exact ⟨0, by omega, rfl, HI⟩
  case round =>
    obtain ⟨k, hk, rfl, HI2⟩ := hrel
    clear HS HI
    obtain ⟨wo, rfl⟩ : ∃ wo : World, wo = wr := ⟨_, rfl⟩
    by_cases hkl : k < l.length
    · have hdi : decide ((k : Int) < (l.length : Int)) = true := by simp; omega
      have hdj : decide (k < l.length) = true := by simp; omega
      obtain ⟨g, rfl, hg, hgA, hc⟩ := HI2.out.2.2.1 k hkl
      have hx13 := hlt _ (getN_mem hkl)
      have HT1 : Hid (∀ i, esA (l.take (k + 1)) i = bor (esA (l.take k) i) (eoF (l.getD k 0) i)) := hid fun i => by rw [takeN l k hkl, esA_snoc]
      generalize l.getD k 0 = x at *
      generalize esA (l.take k) = f at *
      have HX := hid (ends_any x hx13)
      have HE := hid (ie_at x)
      have HO := hid (eo_ord x)
      generalize ord (zf x) 1 = o0 at *
      generalize ord (zf x) 3 = o1 at *
      generalize ord (zt x) 1 = o2 at *
      generalize ord (zt x) 3 = o3 at *
      go_wp2_with (first | (go_at_call 132; (with_reducible refine (HX.out _ (HT.out.below HI2.out.2.2.2)).mono ?_); rintro e w2 ⟨rfl, hb2⟩))
      have HJ : Hid (F4 w2 S (mixF f x 0) ∧ F4 w2 w.heap.size (fun _ => 0) ∧ (∀ i, i < l.length → ∃ g', some (⟨g, 0, none⟩ : Addr) = some ⟨g', 0, none⟩ ∧ g' < w2.heap.size ∧ S < g' ∧ w2.cell? ⟨g', i, none⟩ = some (.int .i64 ((l.getD i 0 : Nat) : Int))) ∧ Below w.heap.size w w2) := hid
        ⟨(HI2.out.1.below hb2).congr fun i _ => by simp [mixF], HI2.out.2.1.below hb2, fun i hi => by
          obtain ⟨g1, e1, e2, e3, e4⟩ := HI2.out.2.2.1 i hi
          exact ⟨g1, e1, Nat.lt_of_lt_of_le e2 hb2.size, e3, by rw [hb2.cell (p := ⟨g1, i, none⟩) e2]; exact e4⟩, HI2.out.2.2.2.trans (hb2.mono HI2.out.2.2.2.size)⟩
      clear HI2 hb2 hc hg HX
      go_wp2
      go_loopw [17] (fun i wr => ∃ p : Nat, p ≤ 4 ∧ i = .int .i64 p ∧ Hid (F4 wr S (mixF f x p) ∧ F4 wr w.heap.size (fun _ => 0) ∧ (∀ i, i < l.length → ∃ g', some (⟨g, 0, none⟩ : Addr) = some ⟨g', 0, none⟩ ∧ g' < wr.heap.size ∧ S < g' ∧ wr.cell? ⟨g', i, none⟩ = some (.int .i64 ((l.getD i 0 : Nat) : Int))) ∧ Below w.heap.size w wr)) (fun i _ => 4 - (intOf i).toNat)
      case atStart => exact ⟨0, by omega, rfl, HJ⟩
      case round =>
        obtain ⟨p, hp, rfl, HK⟩ := hrel
        clear HJ
        obtain ⟨wi, rfl⟩ : ∃ wi : World, wi = wr := ⟨_, rfl⟩
        by_cases p4 : p < 4
        · have hdp : decide ((p : Int) < 4) = true := by simp; omega
          have ix := HE.out p p4
          have ho := HO.out p
          have HM : Hid (∀ i, i < 4 → (if i = p then bor (mixF f x p p) (eoF x p) else mixF f x p i) = mixF f x (p + 1) i) := hid fun i hi => by
            unfold mixF
            by_cases e : i = p
            · subst e; simp
            · rw [if_neg e]
              by_cases e2 : i < p
              · rw [if_pos e2, if_pos (by omega)]
              · rw [if_neg e2, if_neg (by omega)]
          have cp := HK.out.1.c p p4
          have fp := HK.out.1.f p
          have lS := HK.out.1.lt
          generalize eoF x p = o at *
          generalize mixF f x p p = m at *
          have p0 : (0 : Int) ≤ (p : Int) := Int.natCast_nonneg _
          have p5 : (p : Int) < 4 := by omega
          go_wp2
          go_region_with (first | (go_at_call 106; (with_reducible refine (ordersOf_one _ _ _ _ (by simp [go_sem]) ho).mono ?_); rintro e w' ⟨rfl, rfl⟩) | fail)
          all_goals
            have HK1 := hid (show F4 (wi.setCell ⟨S, p, none⟩ (.int .i64 (bor m o))) S (mixF f x (p + 1)) from (HK.out.1.set p4 (bor m o)).congr HM.out)
            have HK2 : Hid (F4 (((wi.setCell ⟨S, p, none⟩ (.int .i64 (bor m o))).alloc (.cells #[.int .i64 o] 135)).drew) S (mixF f x (p + 1)) ∧ F4 (((wi.setCell ⟨S, p, none⟩ (.int .i64 (bor m o))).alloc (.cells #[.int .i64 o] 135)).drew) w.heap.size (fun _ => 0) ∧ (∀ i, i < l.length → ∃ g', some (⟨g, 0, none⟩ : Addr) = some ⟨g', 0, none⟩ ∧ g' < (World.heap (((wi.setCell ⟨S, p, none⟩ (.int .i64 (bor m o))).alloc (.cells #[.int .i64 o] 135)).drew)).size ∧ S < g' ∧ World.cell? (((wi.setCell ⟨S, p, none⟩ (.int .i64 (bor m o))).alloc (.cells #[.int .i64 o] 135)).drew) ⟨g', i, none⟩ = some (.int .i64 ((l.getD i 0 : Nat) : Int))) ∧ Below w.heap.size w (((wi.setCell ⟨S, p, none⟩ (.int .i64 (bor m o))).alloc (.cells #[.int .i64 o] 135)).drew)) := hid (by
              have hstep : Below (wi.setCell ⟨S, p, none⟩ (.int .i64 (bor m o))).heap.size (wi.setCell ⟨S, p, none⟩ (.int .i64 (bor m o))) (((wi.setCell ⟨S, p, none⟩ (.int .i64 (bor m o))).alloc (.cells #[.int .i64 o] 135)).drew) := below_drew' ((Below.refl _ _).alloc (Nat.le_refl _) _)
              have hsz := hstep.size
              rw [World.size_setCell] at hsz hstep
              have hcell : ∀ b i, b ≠ S → b < wi.heap.size → World.cell? (((wi.setCell ⟨S, p, none⟩ (.int .i64 (bor m o))).alloc (.cells #[.int .i64 o] 135)).drew) ⟨b, i, none⟩ = wi.cell? ⟨b, i, none⟩ := fun b i h h2 => (hstep.cell (p := ⟨b, i, none⟩) h2).trans (World.cell?_of_block (w := wi) (Below.heap_setCell wi ⟨S, p, none⟩ _ b h))
              have hfz : ∀ b i, b < wi.heap.size → World.frozen? (((wi.setCell ⟨S, p, none⟩ (.int .i64 (bor m o))).alloc (.cells #[.int .i64 o] 135)).drew) ⟨b, i, none⟩ = wi.frozen? ⟨b, i, none⟩ := fun b i h2 => (hstep.frozen (p := ⟨b, i, none⟩) h2).trans (by simp [go_sem])
              have hne : w.heap.size ≠ S := by omega
              refine ⟨HK1.out.below (by rw [World.size_setCell]; exact hstep), ⟨fun i hi => by rw [hcell _ i hne HK.out.2.1.lt]; exact HK.out.2.1.c i hi, fun i => by rw [hfz _ i HK.out.2.1.lt]; exact HK.out.2.1.f i, Nat.lt_of_lt_of_le HK.out.2.1.lt hsz⟩, fun i hi => ?_, ?_⟩
              · obtain ⟨g1, e1, e2, e3, e4⟩ := HK.out.2.2.1 i hi
                exact ⟨g1, e1, Nat.lt_of_lt_of_le e2 hsz, e3, by rw [hcell g1 i (by omega) e2]; exact e4⟩
              · exact (HK.out.2.2.2.setCell (p := ⟨S, p, none⟩) hS.out _).trans (hstep.mono HK.out.2.2.2.size))
            clear HK HK1 cp fp
            go_wp2
            go_roundw
            case rel => exact ⟨p + 1, by omega, by go_num, HK2⟩
            case measure => simp [intOf]; omega
        · obtain rfl : p = 4 := by omega
          have hdp : decide (((4 : Nat) : Int) < 4) = false := by simp
          have HQ : Hid (F4 wi S (esA (l.take (k + 1))) ∧ F4 wi w.heap.size (fun _ => 0) ∧ (∀ i, i < l.length → ∃ g', some (⟨g, 0, none⟩ : Addr) = some ⟨g', 0, none⟩ ∧ g' < wi.heap.size ∧ S < g' ∧ wi.cell? ⟨g', i, none⟩ = some (.int .i64 ((l.getD i 0 : Nat) : Int))) ∧ Below w.heap.size w wi) := hid
            ⟨HK.out.1.congr fun i hi => by rw [HT1.out, mixF, if_pos hi], HK.out.2⟩
          clear HK
          go_wp2
          go_roundw
          case rel => exact ⟨k + 1, by omega, by go_num, HQ⟩
          case measure => simp [intOf]; omega
    · obtain rfl : k = l.length := by omega
      have hdi : decide ((l.length : Int) < (l.length : Int)) = false := by simp
      have HE := HI2
      rw [List.take_length] at HE
      have c0 := HE.out.1.c 0 (by omega)
      have c1 := HE.out.1.c 1 (by omega)
      have c2 := HE.out.1.c 2 (by omega)
      have c3 := HE.out.1.c 3 (by omega)
      have d0 := HE.out.2.1.c 0 (by omega)
      have d1 := HE.out.2.1.c 1 (by omega)
      have d2 := HE.out.2.1.c 2 (by omega)
      have d3 := HE.out.2.1.c 3 (by omega)
      have f0 := HE.out.2.1.f
      go_wp2
      refine bodyPost_ret (by simp [results, Tryd.results124, go_sem, *]; try rfl) rfl ?_
      exact ⟨by rw [HN.out.1, HN.out.2.1, HN.out.2.2.1, HN.out.2.2.2], by have hbe := HE.out.2.2.2; (repeat' (first | (with_reducible exact Below.refl _ _) | (with_reducible refine Below.setCell ?_ ?_ _) | (with_reducible refine below_drewN' ?_ _) | (with_reducible refine below_drew' ?_) | (with_reducible refine Below.alloc ?_ ?_ _) | (with_reducible assumption) | go_size))⟩
end Go.Proofs.YtmdgkhebefnfeaaDoor.C
