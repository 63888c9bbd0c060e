/- The model's table of composition as it is built, over the intervals of few points: plain functions and facts. The model's table of composition: its walk. -/
import Derived.Test.YtnogdjmciekieaaDoorCmpM
import Derived.Test.YtnogdjmciekieaaDoorBasic
import Derived.Test.YtnogdjmciekieaaDoorRelU
import Derived.Deep.RegionHeld3
import Derived.Deep.AppendLies
import Derived.OwnWalk
import Derived.Deep.DeepCutAuto
import Derived.Laws.AppendOwn
namespace Go.Proofs.YtnogdjmciekieaaDoor.C
section
open Go.RowKit
set_option linter.unusedVariables false
set_option linter.unusedSimpArgs false
def fewI (f k : Nat) : List (Nat × Nat) := (List.range k).map fun j => (f, f + 1 + j)
def fewF : Nat → List (Nat × Nat)
  | 0 => []
  | f + 1 => fewF f ++ fewI f (13 - f)
/-- all intervals of few points -/
def few : List (Nat × Nat) := fewF 14
theorem few_len : few.length = 91 := by decide +kernel
theorem few_ok : ∀ p ∈ few, p.1 < p.2 ∧ p.2 ≤ 13 := by decide +kernel
theorem fewI_succ (f k : Nat) : fewI f (k + 1) = fewI f k ++ [(f, f + 1 + k)] := by simp [fewI, List.range_succ]
theorem fewF_len : ∀ f, f ≤ 14 → (fewF f).length ≤ 91 := by decide +kernel
theorem fewI_len (f k : Nat) : (fewI f k).length = k := by simp [fewI]
/-- the basic relation of two of them -/
def relN (a b : Nat × Nat) : Nat := (batI (zn a.1 b.1 b.2) (zn a.2 b.1 b.2)).toNat
theorem rel_of {a b : Nat × Nat} (ha : a.1 < a.2 ∧ a.2 ≤ 13) (hb : b.1 < b.2 ∧ b.2 ≤ 13) : batI (zn a.1 b.1 b.2) (zn a.2 b.1 b.2) = (relN a b : Int) ∧ relN a b < 13 := by
  have h1 : iv (a.1 : Int) (a.2 : Int) = true := by rw [iv_iff]; omega
  have h2 : iv (b.1 : Int) (b.2 : Int) = true := by rw [iv_iff]; omega
  obtain ⟨k, hk, _, _, hr⟩ := zn_bat h1 h2
  have := batI_hit hr
  unfold relN
  rw [this]
  exact ⟨by simp, by simpa using hk⟩
def mid : Nat × Nat := (4, 9)
def tabI (a : Nat × Nat) (S : Nat) (l : List (Nat × Nat)) : Nat := l.foldl (fun S p => S ||| 2 ^ (13 * (13 * relN a mid + relN mid p) + relN a p)) S
def tabO (S : Nat) (l : List (Nat × Nat)) : Nat := l.foldl (fun S a => tabI a S few) S
/-- the table's number x: thirteen bits of one great number -/
def cellS (S x : Nat) : Nat := S / 2 ^ (13 * x) % 2 ^ 13
theorem cellS_lt (S x : Nat) : cellS S x < 8192 := Nat.mod_lt _ (by decide)
theorem cellS_test (S x j : Nat) : (cellS S x).testBit j = (decide (j < 13) && S.testBit (13 * x + j)) := by
  rw [cellS, Nat.testBit_mod_two_pow, ← Nat.shiftRight_eq_div_pow, Nat.testBit_shiftRight]
theorem cellS_hit (S x r : Nat) (hr : r < 13) : cellS (S ||| 2 ^ (13 * x + r)) x = cellS S x ||| 2 ^ r := by
  refine Nat.eq_of_testBit_eq fun j => ?_
  rw [Nat.testBit_or, cellS_test, cellS_test, Nat.testBit_or, Nat.testBit_two_pow, Nat.testBit_two_pow]
  by_cases h : j < 13
  · by_cases e : r = j
    · subst e; simp [h]
    · simp [h, e]
  · have : ¬ r = j := by omega
    simp [h, this]
theorem cellS_miss (S x y r : Nat) (hr : r < 13) (h : x ≠ y) : cellS (S ||| 2 ^ (13 * y + r)) x = cellS S x := by
  refine Nat.eq_of_testBit_eq fun j => ?_
  rw [cellS_test, cellS_test, Nat.testBit_or, Nat.testBit_two_pow]
  by_cases hj : j < 13
  · have : ¬ 13 * y + r = 13 * x + j := by omega
    simp [hj, this]
  · simp [hj]
theorem cellS_zero (x : Nat) : cellS 0 x = 0 := by simp [cellS]
def tabL : Nat := 11532500863595108661388537645610545565999198224314442701894555880523860162744410459226021931844887418815160608858319592843697687662021021360276084242642007018883276405889114085177290533134741121609665130619049270358408784775713534961648146554646073031952451716479155781349912614651353520058769592308218169059668756793856247183543877569728520811842172405323072743852736918201846976435705774359245949326552468443054851365429248925319115965374390638582252021137861798345743841250241029063026847369029120329055180985801802468671542335529534542507262816162038587225981581613032254467221080995861830949674618842566825166040007874987850210060833382311944241283105562625
set_option maxRecDepth 100000 in
theorem tab_lit : tabO 0 few = tabL := by decide +kernel
theorem tab_cell {x : Nat} (h : x < 169) : cellS (tabO 0 few) x = cmL.getD x 0 := by
  rw [tab_lit]
  have := allB_of (p := fun x => cellS tabL x == cmL.getD x 0) (m := 169) (by decide +kernel) x h
  simpa using this
theorem take_next (l : List (Nat × Nat)) (i : Nat) (h : i < l.length) : l.take (i + 1) = l.take i ++ [l.getD i (0, 0)] := by
  rw [List.take_succ_eq_append_getElem h]
  simp [List.getElem?_eq_getElem h]
theorem tabI_snoc (a : Nat × Nat) (S : Nat) (l : List (Nat × Nat)) (p : Nat × Nat) : tabI a S (l ++ [p]) = tabI a S l ||| 2 ^ (13 * (13 * relN a mid + relN mid p) + relN a p) := by simp [tabI]
theorem tabO_snoc (S : Nat) (l : List (Nat × Nat)) (p : Nat × Nat) : tabO S (l ++ [p]) = tabI p (tabO S l) few := by simp [tabO]
theorem few_at {i : Nat} (h : i < 91) : (few.getD i (0, 0)).1 < (few.getD i (0, 0)).2 ∧ (few.getD i (0, 0)).2 ≤ 13 := by
  have hl : i < few.length := by rw [few_len]; exact h
  rw [List.getD_eq_getElem?_getD, List.getElem?_eq_getElem hl]
  exact few_ok _ (List.getElem_mem hl)
/-- intervals as cells -/
def ivc (l : List (Nat × Nat)) : List Value := l.flatMap fun p => [.int .i64 p.1, .int .i64 p.2]
theorem ivc_len : ∀ l, (ivc l).length = l.length * 2
  | [] => rfl
  | p :: l => by
    have := ivc_len l
    simp only [ivc] at this
    simp [ivc, this]; omega
theorem ivc_at : ∀ (l : List (Nat × Nat)) (i : Nat), i < l.length → (ivc l)[2 * i]? = some (.int .i64 (l.getD i (0, 0)).1) ∧ (ivc l)[2 * i + 1]? = some (.int .i64 (l.getD i (0, 0)).2)
  | [], i, h => by simp at h
  | p :: l, 0, _ => by simp [ivc]
  | p :: l, i + 1, h => by
    have := ivc_at l i (by simpa using h)
    simp only [ivc] at this
    have e1 : 2 * (i + 1) = 2 * i + 1 + 1 := by omega
    have e2 : 2 * (i + 1) + 1 = 2 * i + 1 + 1 + 1 := by omega
    simp only [ivc, List.flatMap_cons, List.cons_append, List.nil_append, e1]
    simpa using this
theorem own_belowT {w w' : World} {base e size n : Nat} {v : Value} {xs : List Value} (h : w.ownsRow base e size v n xs) (hb : Below w.heap.size w w') : w'.ownsRow base e size v n xs :=
  h.kept (row := none) ⟨hb.os, hb.tape, hb.output, hb.size, fun k hk _ => hb.block k hk⟩ (by cases hv : v.ownBlock <;> simp)
end
section
open Go.RowKit
set_option linter.unusedVariables false
set_option linter.unusedSimpArgs false
theorem ivInfo : (Tryd.prog.info? 55).map (fun i => (i.zero, i.size, i.bytes)) = some (some (.agg #[.int .i64 0, .int .i64 0]), 2, 16) := by kernel_rfl
theorem ivc_snoc (l : List (Nat × Nat)) (f t : Nat) : ivc (l ++ [(f, t)]) = ivc l ++ [.int .i64 f, .int .i64 t] := by simp [ivc]
set_option maxHeartbeats 2000000 in
set_option maxRecDepth 100000 in
theorem l3Few_any (w : World) :
    Calls Tryd.prog 84 #[] w fun e w' => (∃ v, e = .returned v ∧ w'.ownsRow w.heap.size 55 2 v 91 (ivc few)) ∧ Below w.heap.size w w' := by
  obtain ⟨i0, hi0, hz0, hz1, hz2⟩ := info_parts ivInfo
  have HS := AllLt.start w; go_enter Tryd.func84, Tryd.ntmps84
  go_wp2
  go_loopw [1, 2] (fun v a wr => ∃ f : Nat, f ≤ 14 ∧ a = .int .i64 f ∧ Hid (wr.ownsRow w.heap.size 55 2 v (fewF f).length (ivc (fewF f))) ∧ Hid (Below w.heap.size w wr)) (fun _ a _ => 14 - (intOf a).toNat)
  case atStart => exact ⟨0, by omega, rfl, hid (World.ownsRow_made w #[] 0 (Nat.le_refl _) (by decide) rfl), hid ((Below.refl _ _).alloc (Nat.le_refl _) _)⟩
  case round =>
    obtain ⟨f, hf, rfl, HO, HB⟩ := hrel
    clear HS
    obtain ⟨wo, rfl⟩ : ∃ wo : World, wo = wr := ⟨_, rfl⟩
    by_cases h14 : f < 14
    · have hdi : decide ((f : Int) < 14) = true := by simp; omega
      go_wp2
      go_loopw [1, 3] (fun v a wr => ∃ k : Nat, k ≤ 13 - f ∧ a = .int .i64 (f + 1 + k : Nat) ∧ Hid (wr.ownsRow w.heap.size 55 2 v (fewF f ++ fewI f k).length (ivc (fewF f ++ fewI f k))) ∧ Hid (Below w.heap.size w wr)) (fun _ a _ => 14 - (intOf a).toNat)
      case atStart => exact ⟨0, by omega, by go_num, by simpa [fewI] using HO, HB⟩
      case round =>
        obtain ⟨k, hk, rfl, HO2, HB2⟩ := hrel
        obtain ⟨wi, rfl⟩ : ∃ wi : World, wi = wr := ⟨_, rfl⟩
        by_cases h15 : f + 1 + k < 14
        · have hdk : decide (((f + 1 + k : Nat) : Int) < 14) = true := by simp; omega
          have hlen : (fewF f ++ fewI f k).length ≤ 104 := by
            have := fewF_len f (by omega)
            rw [List.length_append, fewI_len]; omega
          have hbase : Hid (w.heap.size ≤ wi.heap.size) := hid HB2.out.size
          go_wp2_with (at_builtin; refine wpList_append_own _ rfl _ _ 28 rfl w.heap.size 55 i0 _ 2 16 Tryd.underlying28 hi0 hz0 hz1 hz2 rfl (by decide) _ _ _ rfl (HO2.out.alloc _) ⟨wi.heap.size, 0, none⟩ 1 1 [.int .i64 f, .int .i64 (f + 1 + k : Nat)] rfl rfl ?c1 ?c2 ?c3 ?c4 ?c5 ?_)
          case c1 =>
            intro j u hj
            match j, hj with
            | 0, hj => simp at hj; subst hj; simp [Addr.add]
            | 1, hj => simp at hj; subst hj; simp [Addr.add]
          case c2 => intro u hu; simp at hu; rcases hu with rfl | rfl <;> rfl
          case c3 => unfold maxLen; omega
          case c4 => omega
          case c5 => have := hbase.out; simp; omega
          intro v' w1 hown' hgrow _
          have HB3 := hid ((HB2.out.alloc HB2.out.size _).grown hgrow (by have := hbase.out; simp; omega) (fun j hj => (HO2.out.lt j hj).1))
          have HO3 : Hid (w1.ownsRow w.heap.size 55 2 v' (fewF f ++ fewI f (k + 1)).length (ivc (fewF f ++ fewI f (k + 1)))) := hid (by
            have e1 : (fewF f ++ fewI f (k + 1)).length = (fewF f ++ fewI f k).length + 1 := by rw [fewI_succ, ← List.append_assoc, List.length_append]; rfl
            rw [e1, List.length_append, fewI_succ, ← List.append_assoc, ivc_snoc]
            push_cast
            exact hown')
          clear hown' hgrow
          go_wp2
          go_roundw
          case rel => exact ⟨k + 1, by omega, by go_num, HO3, HB3⟩
          case measure => simp [intOf]; omega
        · obtain rfl : k = 13 - f := by omega
          have hdk : decide (((f + 1 + (13 - f) : Nat) : Int) < 14) = false := by simp; omega
          go_wp2
          go_roundw
          case rel => exact ⟨f + 1, by omega, by go_num, HO2, HB2⟩
          case measure => simp [intOf]; omega
    · obtain rfl : f = 14 := by omega
      have hdi : decide (((14 : Nat) : Int) < 14) = false := by simp
      go_wp2
      go_ret
      exact ⟨⟨_, rfl, by have := HO.out; rw [show (fewF 14).length = 91 from few_len] at this; exact this⟩, HB.out⟩
theorem intInfo : (Tryd.prog.info? 3).map (fun i => (i.zero, i.size, i.bytes)) = some (some (.int .i64 0), 1, 8) := by kernel_rfl
/-- The table under way: 169 numbers in block o. -/
def tabV (S : Nat) : Array Value := ((List.range 169).map fun x => Value.int .i64 ((cellS S x : Nat) : Int)).toArray
def Tab (w : World) (o S : Nat) : Prop := w.heap[o]? = some (.cells (tabV S) 3 (0, 0))
theorem Tab.lt {w : World} {o S : Nat} (h : Tab w o S) : o < w.heap.size := (Array.getElem?_eq_some_iff.1 h).1
theorem Tab.cell {w : World} {o S x : Nat} (h : Tab w o S) (hx : x < 169) : w.cell? ⟨o, x, none⟩ = some (.int .i64 ((cellS S x : Nat) : Int)) := by
  unfold Tab at h
  simp [World.cell?, h, tabV, hx]
theorem Tab.frozen {w : World} {o S : Nat} (h : Tab w o S) (x : Nat) : w.frozen? ⟨o, x, none⟩ = false := by
  unfold Tab at h
  simp [World.frozen?, h]
theorem Tab.below {w w' : World} {o S : Nat} (h : Tab w o S) (hb : Below w.heap.size w w') : Tab w' o S := by
  have hl := h.lt
  unfold Tab at h ⊢
  rw [hb.block o hl]; exact h
theorem tabV_set (S x r : Nat) (hx : x < 169) (hr : r < 13) : (tabV S).setIfInBounds x (.int .i64 ((cellS S x ||| 2 ^ r : Nat) : Int)) = tabV (S ||| 2 ^ (13 * x + r)) := by
  apply Array.ext
  · simp [tabV]
  · intro i h1 h2
    have hi : i < 169 := by simpa [tabV] using h2
    by_cases e : x = i
    · subst e
      simp [tabV, cellS_hit S x r hr]
    · rw [Array.getElem_setIfInBounds]
      · simp [tabV, e, cellS_miss S i x r hr (fun h => e h.symm)]
      · simpa [tabV] using hi
theorem Tab.set {w : World} {o S x r : Nat} (h : Tab w o S) (hx : x < 169) (hr : r < 13) : Tab (w.setCell ⟨o, x, none⟩ (.int .i64 ((cellS S x ||| 2 ^ r : Nat) : Int))) o (S ||| 2 ^ (13 * x + r)) := by
  have hl := h.lt
  unfold Tab at h ⊢
  rw [heap_setCell_same w o x _ _ _ h, ← tabV_set S x r hx hr]
theorem sh_i {k : Nat} (h : k < 13) : IntKind.i64.wrap ((2 : Int) ^ k) = ((2 ^ k : Nat) : Int) := by
  rcases nat13 h with rfl | rfl | rfl | rfl | rfl | rfl | rfl | rfl | rfl | rfl | rfl | rfl | rfl <;> decide +kernel
/-- What the walk knows of the world between the statements of the last loop. -/
structure KT (w wr : World) (g g2 S : Nat) : Prop where
  tab : Tab wr w.heap.size S
  m0 : wr.cell? ⟨w.heap.size + 1, 0, none⟩ = some (.int .i64 4)
  m1 : wr.cell? ⟨w.heap.size + 1, 1, none⟩ = some (.int .i64 9)
  iv : ∀ i, i < 91 → wr.cell? ⟨g, i * 2, none⟩ = some (.int .i64 (few.getD i (0, 0)).1) ∧ wr.cell? ⟨g, i * 2 + 1, none⟩ = some (.int .i64 (few.getD i (0, 0)).2)
  se : ∀ i, i < 91 → wr.cell? ⟨g2, i, none⟩ = some (.int .i64 ((relN mid (few.getD i (0, 0)) : Nat) : Int))
  ml : w.heap.size + 1 < wr.heap.size
  gl : g < wr.heap.size
  gne : g ≠ w.heap.size
  g2l : g2 < wr.heap.size
  g2ne : g2 ≠ w.heap.size
  bel : Below w.heap.size w wr
theorem KT.below {w wr wr' : World} {g g2 S : Nat} (h : KT w wr g g2 S) (hb : Below wr.heap.size wr wr') : KT w wr' g g2 S where
  tab := h.tab.below hb
  m0 := (hb.cell (p := ⟨w.heap.size + 1, 0, none⟩) h.ml).trans h.m0
  m1 := (hb.cell (p := ⟨w.heap.size + 1, 1, none⟩) h.ml).trans h.m1
  iv := fun i hi => ⟨(hb.cell (p := ⟨g, i * 2, none⟩) h.gl).trans (h.iv i hi).1, (hb.cell (p := ⟨g, i * 2 + 1, none⟩) h.gl).trans (h.iv i hi).2⟩
  se := fun i hi => (hb.cell (p := ⟨g2, i, none⟩) h.g2l).trans (h.se i hi)
  ml := Nat.lt_of_lt_of_le h.ml hb.size
  gl := Nat.lt_of_lt_of_le h.gl hb.size
  gne := h.gne
  g2l := Nat.lt_of_lt_of_le h.g2l hb.size
  g2ne := h.g2ne
  bel := h.bel.trans (hb.mono h.bel.size)
theorem KT.set {w wr : World} {g g2 S x r : Nat} (h : KT w wr g g2 S) (hx : x < 169) (hr : r < 13) : KT w (wr.setCell ⟨w.heap.size, x, none⟩ (.int .i64 ((cellS S x ||| 2 ^ r : Nat) : Int))) g g2 (S ||| 2 ^ (13 * x + r)) := by
  have ho : ∀ b i, b ≠ w.heap.size → (wr.setCell ⟨w.heap.size, x, none⟩ (.int .i64 ((cellS S x ||| 2 ^ r : Nat) : Int))).cell? ⟨b, i, none⟩ = wr.cell? ⟨b, i, none⟩ := fun b i hb =>
    World.cell?_of_block (w := wr) (Below.heap_setCell wr ⟨w.heap.size, x, none⟩ _ b hb)
  exact {
    tab := h.tab.set hx hr
    m0 := (ho _ _ (by omega)).trans h.m0
    m1 := (ho _ _ (by omega)).trans h.m1
    iv := fun i hi => ⟨(ho _ _ h.gne).trans (h.iv i hi).1, (ho _ _ h.gne).trans (h.iv i hi).2⟩
    se := fun i hi => (ho _ _ h.g2ne).trans (h.se i hi)
    ml := by simpa using h.ml
    gl := by simpa using h.gl
    gne := h.gne
    g2l := by simpa using h.g2l
    g2ne := h.g2ne
    bel := h.bel.setCell (p := ⟨w.heap.size, x, none⟩) (Nat.le_refl _) _ }
theorem mk169 (w : World) : (Instr.makeSlice 38 (.int .i64 169) (.int .i64 169)).run Tryd.prog w = .ok (.slice (some ⟨w.heap.size, 0, none⟩) 169 169) (w.alloc (.cells ((List.range 169).map fun _ => Value.int .i64 0).toArray 3)) := by kernel_rfl
theorem Tab.made (w : World) : Tab (w.alloc (.cells ((List.range 169).map fun _ => Value.int .i64 0).toArray 3)) w.heap.size 0 := by
  unfold Tab
  rw [heap_alloc_new]
  simp [tabV, cellS_zero]
/-- The second relation of each pair, as cells. -/
def sec (l : List (Nat × Nat)) : List Value := l.map fun p => Value.int .i64 ((relN mid p : Nat) : Int)
theorem sec_len (l : List (Nat × Nat)) : (sec l).length = l.length := by simp [sec]
theorem mid_ok : mid.1 < mid.2 ∧ mid.2 ≤ 13 := by decide
theorem own_iv {w : World} {base n g cap : Nat} {l : List (Nat × Nat)} {T : TypeId} (h : w.ownsRow base T 2 (.slice (some ⟨g, 0, none⟩) n cap) n (ivc l)) {i : Nat} (hi : i < l.length) :
    w.cell? ⟨g, i * 2, none⟩ = some (.int .i64 (l.getD i (0, 0)).1) ∧ w.cell? ⟨g, i * 2 + 1, none⟩ = some (.int .i64 (l.getD i (0, 0)).2) := by
  obtain ⟨h1, h2⟩ := ivc_at l i hi
  have ha : ∀ j, (⟨g, 0, none⟩ : Addr).add j = ⟨g, j, none⟩ := fun j => by unfold Addr.add; split <;> simp_all
  have c1 := h.cells (g := g) rfl _ _ h1
  have c2 := h.cells (g := g) rfl _ _ h2
  rw [ha] at c1 c2
  rw [show i * 2 = 2 * i by omega]
  exact ⟨c1, c2⟩
set_option maxHeartbeats 4000000 in
set_option maxRecDepth 100000 in
theorem l3Table_any (w : World) :
    Calls Tryd.prog 53 #[] w fun e w' => (∃ o, e = .returned (.slice (some ⟨o, 0, none⟩) 169 169) ∧ w.heap.size ≤ o ∧ Tab w' o (tabO 0 few)) ∧ Below w.heap.size w w' := by
  obtain ⟨i0, hi0, hz0, hz1, hz2⟩ := info_parts intInfo
  have hmk := mk169
  have HM := hid (Tab.made w)
  generalize hx : ((List.range 169).map fun _ => Value.int .i64 0).toArray = zs at *
  clear hx
  have HS := AllLt.start w; go_enter Tryd.func53, Tryd.ntmps53
  go_wp2_with fail
  (with_reducible refine (l3Few_any _).mono ?_)
  rintro e w1 ⟨⟨v, rfl, hown⟩, hb1⟩
  obtain ⟨g, cap, rfl, hge, hgl⟩ := hown.form (by omega)
  have hB0 : Below w.heap.size w ((w.alloc (.cells zs 3)).alloc (.cells #[.int .i64 4, .int .i64 9] 55)) := ((Below.refl _ _).alloc (Nat.le_refl _) _).alloc (by simp) _
  have hsz := hb1.size
  simp only [World.size_alloc] at hsz hge
  have m0 : w1.cell? ⟨w.heap.size + 1, 0, none⟩ = some (.int .i64 4) := by
    rw [hb1.cell (p := ⟨w.heap.size + 1, 0, none⟩) (by simp)]; simp [go_sem]
  have m1 : w1.cell? ⟨w.heap.size + 1, 1, none⟩ = some (.int .i64 9) := by
    rw [hb1.cell (p := ⟨w.heap.size + 1, 1, none⟩) (by simp)]; simp [go_sem]
  have HTab := hid ((HM.out.below ((Below.refl _ _).alloc (Nat.le_refl _) (.cells #[.int .i64 4, .int .i64 9] 55))).below hb1)
  have HB1 := hid (hB0.trans (hb1.mono (by simp; omega)))
  have hfew : ∀ i, i < 91 → w1.cell? ⟨g, i * 2, none⟩ = some (.int .i64 (few.getD i (0, 0)).1) ∧ w1.cell? ⟨g, i * 2 + 1, none⟩ = some (.int .i64 (few.getD i (0, 0)).2) := fun i hi => own_iv hown (by rw [few_len]; exact hi)
  have HF := hid hfew
  have hb_ : Hid (w.heap.size + 1 < w1.heap.size) := hid (by omega)
  have hgl := hid hgl
  clear hb1 hB0 hown hfew HM hmk HS
  go_wp2_with fail
  go_loopw [4, 5] (fun v a wr => ∃ k : Nat, k ≤ 91 ∧ a = .int .i64 k ∧ Hid (wr.ownsRow w1.heap.size 3 1 v k (sec (few.take k))) ∧ Hid (Below w1.heap.size w1 wr)) (fun _ a _ => 91 - (intOf a).toNat)
  case atStart => exact ⟨0, by omega, rfl, hid (World.ownsRow_made w1 #[] 0 (Nat.le_refl _) (by decide) rfl), hid ((Below.refl _ _).alloc (Nat.le_refl _) _)⟩
  case round =>
    obtain ⟨k, hk, rfl, HO, HB⟩ := hrel
    obtain ⟨wo, rfl⟩ : ∃ wo : World, wo = wr := ⟨_, rfl⟩
    by_cases h91 : k < 91
    · have hdi : decide ((k : Int) < 91) = true := by simp; omega
      obtain ⟨r2, r3⟩ := HF.out k h91
      have HR : Hid (batI (zn 4 ((few.getD k (0, 0)).1 : Int) ((few.getD k (0, 0)).2 : Int)) (zn 9 ((few.getD k (0, 0)).1 : Int) ((few.getD k (0, 0)).2 : Int)) = (relN mid (few.getD k (0, 0)) : Int) ∧ relN mid (few.getD k (0, 0)) < 13) := hid (rel_of mid_ok (few_at h91))
      have hlk : Hid ((few.take (k + 1)) = few.take k ++ [few.getD k (0, 0)]) := hid (take_next few k (by rw [few_len]; exact h91))
      generalize few.getD k (0, 0) = p at *
      have hk0 : (0 : Int) ≤ (k : Int) := Int.natCast_nonneg _
      have hk1 : (k : Int) < 91 := by omega
      have y1 := hb_.out
      have y2 := hgl.out
      have hbb := HB.out
      go_wp2_with fail
      go_region_held3 (fun wx => wx.cell? ⟨w.heap.size + 1, 0, none⟩ = some (.int .i64 4) ∧ wx.cell? ⟨w.heap.size + 1, 1, none⟩ = some (.int .i64 9) ∧ wx.cell? ⟨g, k * 2, none⟩ = some (.int .i64 p.1) ∧ wx.cell? ⟨g, k * 2 + 1, none⟩ = some (.int .i64 p.2))
        (exact ⟨(Below.cell (B := w1.heap.size) (w := w1) (p := ⟨w.heap.size + 1, 0, none⟩) (by (repeat' (first | (with_reducible exact Below.refl _ _) | (with_reducible refine Below.setCell ?_ ?_ _) | (with_reducible refine below_drewN' ?_ _) | (with_reducible refine below_drew' ?_) | (with_reducible refine Below.alloc ?_ ?_ _) | (with_reducible assumption) | go_size))) y1).trans m0, (Below.cell (B := w1.heap.size) (w := w1) (p := ⟨w.heap.size + 1, 1, none⟩) (by (repeat' (first | (with_reducible exact Below.refl _ _) | (with_reducible refine Below.setCell ?_ ?_ _) | (with_reducible refine below_drewN' ?_ _) | (with_reducible refine below_drew' ?_) | (with_reducible refine Below.alloc ?_ ?_ _) | (with_reducible assumption) | go_size))) y1).trans m1, (Below.cell (B := w1.heap.size) (w := w1) (p := ⟨g, k * 2, none⟩) (by (repeat' (first | (with_reducible exact Below.refl _ _) | (with_reducible refine Below.setCell ?_ ?_ _) | (with_reducible refine below_drewN' ?_ _) | (with_reducible refine below_drew' ?_) | (with_reducible refine Below.alloc ?_ ?_ _) | (with_reducible assumption) | go_size))) y2).trans r2, (Below.cell (B := w1.heap.size) (w := w1) (p := ⟨g, k * 2 + 1, none⟩) (by (repeat' (first | (with_reducible exact Below.refl _ _) | (with_reducible refine Below.setCell ?_ ?_ _) | (with_reducible refine below_drewN' ?_ _) | (with_reducible refine below_drew' ?_) | (with_reducible refine Below.alloc ?_ ?_ _) | (with_reducible assumption) | go_size))) y2).trans r3⟩)
        (first | (go_at_call 27; (with_reducible refine (l2Rel_any _ _ _ _ _).mono ?_); rintro e w' ⟨rfl, hb⟩; rw [HR.out.1]; have HB3 : Below wo.heap.size wo w' := (bst (w0 := wo) (by go_grown) hb).1; have HB2 : Below w1.heap.size w1 w' := (bst (w0 := w1) (by go_grown) hb).1; have hsz2 : w1.heap.size ≤ w'.heap.size := HB2.size; have hsz3 : wo.heap.size ≤ w'.heap.size := HB3.size; clear hb) | (go_loud (refine step_append_lies _ (by rfl) _ _ _ (by rfl) w1.heap.size 3 i0 _ 1 8 Tryd.underlying38 hi0 hz0 hz1 hz2 rfl (by omega) _ k (sec (few.take k)) (by rfl) (own_belowT HO.out (by go_grown)) ⟨w'.heap.size, 0, none⟩ 1 1 [.int .i64 ((relN mid p : Nat) : Int)] (by rfl) (by rfl) (World.news_of_block (cs := #[.int .i64 ((relN mid p : Nat) : Int)]) (t := 3) (fr := (0, 0)) (heap_alloc_new _ _)) (by simp [Value.oneCell']) (by omega) (by unfold maxLen; omega) (by omega) (Below.size (B := w1.heap.size) (w := w1) (by go_grown)) _ rfl ?_); intro gg cap2 w2 hown1 hgrow hat hlt; have HB9 : Below w1.heap.size w1 w2 := Below.grown (by go_grown) hgrow (Below.size (B := w1.heap.size) (w := w1) (by go_grown)) (fun j hj => (HO.out.lt j hj).1); have HO9 := hid hown1; clear hown1 hgrow hat hlt) | fail)
      all_goals
        have HB10 := hid HB9
        clear HB9
        go_wp2
        go_roundw
        case rel => exact ⟨k + 1, by omega, by go_num, hid (by rw [hlk.out]; simpa [sec] using HO9.out), HB10⟩
        case measure => simp [intOf]; omega
    · obtain rfl : k = 91 := by omega
      have hdi : decide (((91 : Nat) : Int) < 91) = false := by simp
      have hO := HO.out
      rw [show few.take 91 = few from List.take_of_length_le (by rw [few_len]; omega)] at hO
      obtain ⟨g2, cap2, rfl, hge2, hgl2⟩ := hO.form (by omega)
      have hK : KT w wo g g2 (tabO 0 []) := {
        tab := HTab.out.below HB.out
        m0 := (HB.out.cell (p := ⟨w.heap.size + 1, 0, none⟩) hb_.out).trans m0
        m1 := (HB.out.cell (p := ⟨w.heap.size + 1, 1, none⟩) hb_.out).trans m1
        iv := fun i hi => ⟨(HB.out.cell (p := ⟨g, i * 2, none⟩) hgl.out).trans (HF.out i hi).1, (HB.out.cell (p := ⟨g, i * 2 + 1, none⟩) hgl.out).trans (HF.out i hi).2⟩
        se := fun i hi => by
          have hl : i < few.length := by rw [few_len]; exact hi
          have hc : (sec few)[i]? = some (.int .i64 ((relN mid (few.getD i (0, 0)) : Nat) : Int)) := by simp [sec, List.getElem?_eq_getElem hl]
          have := hO.cells (g := g2) rfl _ _ hc
          rw [show (⟨g2, 0, none⟩ : Addr).add i = ⟨g2, i, none⟩ by unfold Addr.add; split <;> simp_all] at this
          exact this
        ml := Nat.lt_of_lt_of_le hb_.out HB.out.size
        gl := Nat.lt_of_lt_of_le hgl.out HB.out.size
        gne := by omega
        g2l := hgl2
        g2ne := by have := hb_.out; omega
        bel := HB1.out.trans (HB.out.mono (by have := hb_.out; omega)) }
      have HK := hid hK
      clear hK hO HO HB HF HTab HB1 m0 m1 hge2 hgl2 hge hsz hgl hb_
      go_wp2_with fail
      go_loopw [6] (fun a wr => ∃ i : Nat, i ≤ 91 ∧ a = .int .i64 i ∧ Hid (KT w wr g g2 (tabO 0 (few.take i)))) (fun a _ => 91 - (intOf a).toNat)
      case atStart => exact ⟨0, by omega, rfl, by simpa using HK⟩
      case round =>
        obtain ⟨i, hi, rfl, HK1⟩ := hrel
        clear HK
        obtain ⟨wp, rfl⟩ : ∃ wp : World, wp = wr := ⟨_, rfl⟩
        by_cases i91 : i < 91
        · have hdi : decide ((i : Int) < 91) = true := by simp; omega
          have hi0' : (0 : Int) ≤ (i : Int) := Int.natCast_nonneg _
          have hi1' : (i : Int) < 91 := by omega
          have HR : Hid (batI (zn ((few.getD i (0, 0)).1 : Int) 4 9) (zn ((few.getD i (0, 0)).2 : Int) 4 9) = (relN (few.getD i (0, 0)) mid : Int) ∧ relN (few.getD i (0, 0)) mid < 13) := hid (rel_of (few_at i91) mid_ok)
          have hpk := few_at i91
          have HS1 : Hid (tabO 0 (few.take (i + 1)) = tabI (few.getD i (0, 0)) (tabO 0 (few.take i)) few) := hid (by rw [take_next few i (by rw [few_len]; exact i91), tabO_snoc])
          obtain ⟨r2, r3⟩ := HK1.out.iv i i91
          have r0 := HK1.out.m0
          have r1 := HK1.out.m1
          have z1 := HK1.out.ml
          have z2 := HK1.out.gl
          have HPI : Hid (∀ wr S, KT w wr g g2 S → wr.cell? ⟨g, i * 2, none⟩ = some (.int .i64 (few.getD i (0, 0)).1) ∧ wr.cell? ⟨g, i * 2 + 1, none⟩ = some (.int .i64 (few.getD i (0, 0)).2)) := hid fun wr S h => h.iv i i91
          generalize few.getD i (0, 0) = p at *
          generalize tabO 0 (few.take i) = S0 at *
          go_wp2_with fail
          go_region_held3 (fun wx => wx.cell? ⟨w.heap.size + 1, 0, none⟩ = some (.int .i64 4) ∧ wx.cell? ⟨w.heap.size + 1, 1, none⟩ = some (.int .i64 9) ∧ wx.cell? ⟨g, i * 2, none⟩ = some (.int .i64 p.1) ∧ wx.cell? ⟨g, i * 2 + 1, none⟩ = some (.int .i64 p.2))
            (exact ⟨(Below.cell (B := wp.heap.size) (w := wp) (p := ⟨w.heap.size + 1, 0, none⟩) (by (repeat' (first | (with_reducible exact Below.refl _ _) | (with_reducible refine Below.setCell ?_ ?_ _) | (with_reducible refine below_drewN' ?_ _) | (with_reducible refine below_drew' ?_) | (with_reducible refine Below.alloc ?_ ?_ _) | (with_reducible assumption) | go_size))) z1).trans r0, (Below.cell (B := wp.heap.size) (w := wp) (p := ⟨w.heap.size + 1, 1, none⟩) (by (repeat' (first | (with_reducible exact Below.refl _ _) | (with_reducible refine Below.setCell ?_ ?_ _) | (with_reducible refine below_drewN' ?_ _) | (with_reducible refine below_drew' ?_) | (with_reducible refine Below.alloc ?_ ?_ _) | (with_reducible assumption) | go_size))) z1).trans r1, (Below.cell (B := wp.heap.size) (w := wp) (p := ⟨g, i * 2, none⟩) (by (repeat' (first | (with_reducible exact Below.refl _ _) | (with_reducible refine Below.setCell ?_ ?_ _) | (with_reducible refine below_drewN' ?_ _) | (with_reducible refine below_drew' ?_) | (with_reducible refine Below.alloc ?_ ?_ _) | (with_reducible assumption) | go_size))) z2).trans r2, (Below.cell (B := wp.heap.size) (w := wp) (p := ⟨g, i * 2 + 1, none⟩) (by (repeat' (first | (with_reducible exact Below.refl _ _) | (with_reducible refine Below.setCell ?_ ?_ _) | (with_reducible refine below_drewN' ?_ _) | (with_reducible refine below_drew' ?_) | (with_reducible refine Below.alloc ?_ ?_ _) | (with_reducible assumption) | go_size))) z2).trans r3⟩)
            (first | (go_at_call 27; (with_reducible refine (l2Rel_any _ _ _ _ _).mono ?_); rintro e w' ⟨rfl, hb⟩; rw [HR.out.1]; have HB2 : Below wp.heap.size wp w' := (bst (w0 := wp) (by go_grown) hb).1; have hsz2 : wp.heap.size ≤ w'.heap.size := HB2.size; clear hb))
          all_goals
            have HKa := hid (HK1.out.below HB2)
            have hr1 := hid HR.out.2
            clear HK1 HB2 r0 r1 r2 r3 z1 z2 HR
            go_wp2_with fail
            go_loopw [8] (fun a wr => ∃ k : Nat, k ≤ 91 ∧ a = .int .i64 k ∧ Hid (KT w wr g g2 (tabI p S0 (few.take k)))) (fun a _ => 91 - (intOf a).toNat)
            case atStart => exact ⟨0, by omega, rfl, by simpa [tabI] using HKa⟩
            case round =>
              obtain ⟨k, hk, rfl, HK⟩ := hrel
              obtain ⟨wq, rfl⟩ : ∃ wq : World, wq = wr := ⟨_, rfl⟩
              by_cases k91 : k < 91
              · have hdk : decide ((k : Int) < 91) = true := by simp; omega
                have hk0' : (0 : Int) ≤ (k : Int) := Int.natCast_nonneg _
                have hk1' : (k : Int) < 91 := by omega
                have HQ := hid (rel_of hpk (few_at k91))
                have hr2 := (rel_of mid_ok (few_at k91)).2
                have HL : Hid (tabI p S0 (few.take (k + 1)) = tabI p S0 (few.take k) ||| 2 ^ (13 * (13 * relN p mid + relN mid (few.getD k (0, 0))) + relN p (few.getD k (0, 0)))) := hid (by rw [take_next few k (by rw [few_len]; exact k91), tabI_snoc])
                obtain ⟨q2, q3⟩ := HK.out.iv k k91
                obtain ⟨p2, p3⟩ := HPI.out _ _ HK.out
                have hs := HK.out.se k k91
                generalize few.getD k (0, 0) = q at *
                generalize tabI p S0 (few.take k) = S1 at *
                have hr3 := HQ.out.2
                have hr1 := hr1.out
                have HQ1 := hid HQ.out.1
                clear HQ
                generalize relN p mid = x1 at *
                generalize relN mid q = x2 at *
                generalize relN p q = x3 at *
                have z2 := HK.out.gl
                have hxl : 13 * x1 + x2 < 169 := by omega
                have hv : Hid (bits .or .i64 ((cellS S1 (13 * x1 + x2) : Nat) : Int) (IntKind.i64.wrap (2 ^ min (IntKind.u64.wrap (x3 : Int)).toNat 64)) = ((cellS S1 (13 * x1 + x2) ||| 2 ^ x3 : Nat) : Int)) := hid (by
                  rw [show min (IntKind.u64.wrap (x3 : Int)).toNat 64 = x3 by rw [IntKind.wrap_u64]; omega, sh_i hr3, i64_or _ _ (cellS_lt _ _) (pow_lt hr3)])
                have hb1 : (x1 : Int) < 13 := by omega
                have hb2 : (x2 : Int) < 13 := by omega
                have hc0 : (0 : Int) ≤ 13 * (x1 : Int) + (x2 : Int) := by omega
                have hc1 : 13 * (x1 : Int) + (x2 : Int) < 169 := by omega
                have hto : Hid ((13 * (x1 : Int) + (x2 : Int)).toNat = 13 * x1 + x2) := hid (by omega)
                have c59 : wq.cell? ⟨w.heap.size, (13 * (x1 : Int) + (x2 : Int)).toNat, none⟩ = some (.int .i64 ((cellS S1 (13 * x1 + x2) : Nat) : Int)) := by rw [hto.out]; exact HK.out.tab.cell hxl
                have f59 : wq.frozen? ⟨w.heap.size, (13 * (x1 : Int) + (x2 : Int)).toNat, none⟩ = false := by rw [hto.out]; exact HK.out.tab.frozen (13 * x1 + x2)
                have zo : w.heap.size < wq.heap.size := HK.out.tab.lt
                go_wp2_with fail
                go_region_with (first | (go_at_call 27; (with_reducible refine (l2Rel_any _ _ _ _ _).mono ?_); rintro e w' ⟨rfl, hb⟩; rw [HQ1.out]; have HB3 : Below wq.heap.size wq w' := (bst (w0 := wq) (by go_grown) hb).1; have c60 := (HB3.cell (p := ⟨w.heap.size, (13 * (x1 : Int) + (x2 : Int)).toNat, none⟩) zo).trans c59; have f60 := (HB3.frozen (p := ⟨w.heap.size, (13 * (x1 : Int) + (x2 : Int)).toNat, none⟩) zo).trans f59; clear hb))
                all_goals
                  have HK2 := hid (show KT w (w'.setCell ⟨w.heap.size, (13 * (x1 : Int) + (x2 : Int)).toNat, none⟩ (.int .i64 (bits .or .i64 ((cellS S1 (13 * x1 + x2) : Nat) : Int) (IntKind.i64.wrap (2 ^ min (IntKind.u64.wrap (x3 : Int)).toNat 64))))) g g2 (S1 ||| 2 ^ (13 * (13 * x1 + x2) + x3)) from by
                    rw [hto.out, hv.out]; exact (HK.out.below HB3).set hxl hr3)
                  clear c59 c60 f59 f60 HB3 q2 q3 p2 p3 hs
                  generalize w'.setCell ⟨w.heap.size, (13 * (x1 : Int) + (x2 : Int)).toNat, none⟩ (.int .i64 (bits .or .i64 ((cellS S1 (13 * x1 + x2) : Nat) : Int) (IntKind.i64.wrap (2 ^ min (IntKind.u64.wrap (x3 : Int)).toNat 64)))) = wz at *
                  go_wp2
                  go_roundw
                  case rel => exact ⟨k + 1, by omega, by go_num, hid (by rw [HL.out]; exact HK2.out)⟩
                  case measure => simp [intOf]; omega
              · obtain rfl : k = 91 := by omega
                have hdk : decide (((91 : Nat) : Int) < 91) = false := by simp
                have HKb : Hid (KT w wq g g2 (tabI p S0 few)) := hid (by
                  have := HK.out
                  rw [show few.take 91 = few from List.take_of_length_le (by rw [few_len]; omega)] at this
                  exact this)
                clear HK HKa
                go_wp2
                refine ⟨?_, ?measure⟩
                · exact ⟨_, _, _, _, _, _, _, _, _, _, _, _, _, _, _, _, _, _, _, _, _, _, _, _, _, _, _, _, _, _, _, _, _, _, _, _, _, _, _, _, _, _, _, _, _, _, _, _, ⟨i + 1, by omega, by go_num, hid (by rw [HS1.out]; exact HKb.out)⟩, rfl⟩
                case measure => simp [intOf]; omega
        · obtain rfl : i = 91 := by omega
          have hdi : decide (((91 : Nat) : Int) < 91) = false := by simp
          have HF1 : Hid (Tab wp w.heap.size (tabO 0 few) ∧ Below w.heap.size w wp) := hid ⟨by
            have := HK1.out.tab
            rw [show few.take 91 = few from List.take_of_length_le (by rw [few_len]; omega)] at this
            exact this, HK1.out.bel⟩
          clear HK1
          go_wp2
          go_ret
          exact ⟨⟨_, rfl, Nat.le_refl _, HF1.out.1⟩, HF1.out.2⟩
end
end Go.Proofs.YtnogdjmciekieaaDoor.C
