/- The program's networks of points: the sets of two points, read and put; the pairs; the text. -/
import Derived.Test.YtmdgkhebefnfeaaDoorMapQ
import Derived.Test.YtmdgkhebefnfeaaDoorPntD
import Derived.Test.YtmdgkhebefnfeaaDoorTurn
import Derived.Test.YtmdgkhebefnfeaaDoorBuilder
import Derived.Test.YtmdgkhebefnfeaaDoorFac
import Derived.Test.YtmdgkhebefnfeaaDoorInts
import Derived.Deep.DeepCutAuto
import Derived.DeepKeys4
import Derived.Laws.AppendOwn
import Derived.OwnWalk
namespace Go.Proofs.YtmdgkhebefnfeaaDoor.C
open Go.RowKit
set_option linter.unusedVariables false
set_option linter.unusedSimpArgs false
/-! Pairs i < k in order -/
def pqI (i m : Nat) : List (Nat × Nat) := (List.range m).map fun j => (i, i + 1 + j)
def pqF (n : Nat) : Nat → List (Nat × Nat)
  | 0 => []
  | i + 1 => pqF n i ++ pqI i (n - 1 - i)
def pqL (n : Nat) : List (Nat × Nat) := pqF n n
theorem pqI_len (i m : Nat) : (pqI i m).length = m := by simp [pqI]
theorem pqI_succ (i m : Nat) : pqI i (m + 1) = pqI i m ++ [(i, i + 1 + m)] := by simp [pqI, List.range_succ]
theorem pqI_mem {i m : Nat} {p : Nat × Nat} : p ∈ pqI i m ↔ p.1 = i ∧ i < p.2 ∧ p.2 < i + 1 + m := by
  simp only [pqI, List.mem_map, List.mem_range]
  constructor
  · rintro ⟨j, h, rfl⟩
    exact ⟨rfl, by simp; omega, by simp; omega⟩
  · rintro ⟨rfl, h2, h3⟩
    refine ⟨p.2 - p.1 - 1, by omega, ?_⟩
    apply Prod.ext
    · rfl
    · simp; omega
theorem pqF_mem {n : Nat} {p : Nat × Nat} : ∀ {i : Nat}, i ≤ n → (p ∈ pqF n i ↔ p.1 < i ∧ p.1 < p.2 ∧ p.2 < n)
  | 0, _ => by simp [pqF]
  | i + 1, h => by
    have ih := pqF_mem (p := p) (i := i) (Nat.le_of_succ_le h)
    simp only [pqF, List.mem_append, ih, pqI_mem]
    omega
theorem pqL_mem {n : Nat} {p : Nat × Nat} : p ∈ pqL n ↔ p.1 < p.2 ∧ p.2 < n := by
  rw [pqL, pqF_mem (Nat.le_refl n)]; omega
theorem pqF_len {n : Nat} (hn : n ≤ 12) : ∀ {i : Nat}, i ≤ n → (pqF n i).length ≤ i * 12
  | 0, _ => by simp [pqF]
  | i + 1, h => by
    have ih := pqF_len hn (i := i) (Nat.le_of_succ_le h)
    simp only [pqF, List.length_append, pqI_len]
    omega
theorem pqL_len {n : Nat} (hn : n ≤ 12) : (pqL n).length ≤ 144 := by
  have := pqF_len hn (Nat.le_refl n)
  show (pqF n n).length ≤ 144
  omega
theorem pqL_at {n j : Nat} (hj : j < (pqL n).length) : ((pqL n).getD j (0, 0)).1 < ((pqL n).getD j (0, 0)).2 ∧ ((pqL n).getD j (0, 0)).2 < n := by
  refine pqL_mem.1 ?_
  rw [List.getD_eq_getElem?_getD, List.getElem?_eq_getElem hj]
  exact List.getElem_mem _
theorem pq_take {l : List (Nat × Nat)} {j : Nat} (hj : j < l.length) : l.take (j + 1) = l.take j ++ [l.getD j (0, 0)] := by
  rw [List.take_add_one, List.getElem?_eq_getElem hj, List.getD_eq_getElem?_getD, List.getElem?_eq_getElem hj]; rfl
def prQ (l : List (Nat × Nat)) : List Value := l.flatMap fun p => [.int .i64 (p.1 : Int), .int .i64 (p.2 : Int)]
theorem prQ_snoc (l : List (Nat × Nat)) (p : Nat × Nat) : prQ (l ++ [p]) = prQ l ++ [.int .i64 (p.1 : Int), .int .i64 (p.2 : Int)] := by simp [prQ]
theorem prQ_at : ∀ (l : List (Nat × Nat)) (j : Nat), j < l.length → (prQ l)[2 * j]? = some (.int .i64 ((l.getD j (0, 0)).1 : Int)) ∧ (prQ l)[2 * j + 1]? = some (.int .i64 ((l.getD j (0, 0)).2 : Int))
  | [], j, h => by simp at h
  | p :: l, 0, _ => by simp [prQ]
  | p :: l, j + 1, h => by
    have := prQ_at l j (by simpa using h)
    simp only [prQ, List.flatMap_cons] at this ⊢
    rw [show 2 * (j + 1) = 2 * j + 1 + 1 by omega, show 2 * j + 1 + 1 + 1 = (2 * j + 1) + 1 + 1 by omega]
    simpa using this
/-- A slice of pairs, in a block from a bound on. -/
def Pq (w : World) (B : Nat) (v : Value) (l : List (Nat × Nat)) : Prop :=
  ∃ a cap, v = .slice a l.length cap ∧ ∀ j, j < l.length → ∃ g, a = some ⟨g, 0, none⟩ ∧ B ≤ g ∧ g < w.heap.size ∧ w.cell? ⟨g, j * 2, none⟩ = some (.int .i64 ((l.getD j (0, 0)).1 : Int)) ∧ w.cell? ⟨g, j * 2 + 1, none⟩ = some (.int .i64 ((l.getD j (0, 0)).2 : Int))
theorem Pq.of_own {w : World} {v : Value} {l : List (Nat × Nat)} {base : Nat} {T : TypeId} (h : w.ownsRow base T 2 v l.length (prQ l)) : Pq w base v l := by
  have h0 := h
  rcases h.2 with ⟨rfl, hn⟩ | ⟨g, cap, cur, rfl, hB, hg, h1, h2, h3, h4⟩
  · exact ⟨none, 0, by rw [hn], fun j hj => by omega⟩
  · refine ⟨some ⟨g, 0, none⟩, cap, rfl, fun j hj => ⟨g, rfl, hB, (Array.getElem?_eq_some_iff.1 hg).1, ?_, ?_⟩⟩
    · have ha : ∀ j, (⟨g, 0, none⟩ : Addr).add j = ⟨g, j, none⟩ := fun j => by unfold Addr.add; split <;> simp_all
      have c1 := h0.cells (g := g) rfl (2 * j) _ (prQ_at l j hj).1
      rw [ha] at c1
      rw [show j * 2 = 2 * j by omega]; exact c1
    · have ha : ∀ j, (⟨g, 0, none⟩ : Addr).add j = ⟨g, j, none⟩ := fun j => by unfold Addr.add; split <;> simp_all
      have c1 := h0.cells (g := g) rfl (2 * j + 1) _ (prQ_at l j hj).2
      rw [ha] at c1
      rw [show j * 2 = 2 * j by omega]; exact c1
theorem own_bel {w w' : World} {base e size n : Nat} {v : Value} {xs : List Value} (h : w.ownsRow base e size v n xs) (hb : Below w.heap.size w w') : w'.ownsRow base e size v n xs :=
  h.kept (row := none) ⟨hb.os, hb.tape, hb.output, hb.size, fun k hk _ => hb.block k hk⟩ (by cases hv : v.ownBlock <;> simp)
/-! Maps of pairs of points -/
theorem MW.wr {g : Nat} {w w' : World} (h : MW g w w') : Wr g w w' := by
  obtain ⟨o, rfl⟩ := h
  refine ⟨rfl, rfl, rfl, ?_, fun k hk hq => ?_⟩
  · show w.heap.size ≤ (w.heap.setIfInBounds g o).size
    simp
  · show (w.heap.setIfInBounds g o)[k]? = _
    rw [Array.getElem?_setIfInBounds, if_neg (fun e => hq e.symm)]
theorem FM.wr {w w' : World} {g q : Nat} {G : Nat × Nat → Option Nat} (h : FM w g G) (hw : Wr q w w') (hq : g ≠ q) : FM w' g G := h.block (hw.block g h.lt hq)
/-- the keys of the map are pairs of points, and its values are sets -/
def KG (G : Nat × Nat → Option Nat) : Prop := ∀ p v, G p = some v → p.1 < 12 ∧ p.2 < 12 ∧ v < 8
theorem KG.none : KG fun _ => none := fun p v h => by cases h
theorem KG.put {G : Nat × Nat → Option Nat} (h : KG G) {p : Nat × Nat} {v : Nat} (h1 : p.1 < 12) (h2 : p.2 < 12) (h3 : v < 8) : KG (putG G p v) := by
  intro q u hq
  unfold putG at hq
  split at hq
  · rename_i e
    cases hq
    subst e
    exact ⟨h1, h2, h3⟩
  · exact h q u hq
/-- Block g is the map of a network of n points. -/
def PN (w : World) (g n : Nat) (N : Nat → Nat → Nat) : Prop := ∃ G, FM w g G ∧ KG G ∧ ∀ i k, i < k → k < n → (G (i, k)).getD 7 = N i k
theorem PN.lt {w : World} {g n : Nat} {N : Nat → Nat → Nat} (h : PN w g n N) : g < w.heap.size := by
  obtain ⟨G, h, _⟩ := h
  exact h.lt
theorem PN.below {w w' : World} {g n : Nat} {N : Nat → Nat → Nat} (h : PN w g n N) (hb : Below w.heap.size w w') : PN w' g n N := by
  obtain ⟨G, h1, h2⟩ := h
  exact ⟨G, h1.below hb, h2⟩
theorem PN.wr {w w' : World} {g n q : Nat} {N : Nat → Nat → Nat} (h : PN w g n N) (hw : Wr q w w') (hq : g ≠ q) : PN w' g n N := by
  obtain ⟨G, h1, h2⟩ := h
  exact ⟨G, h1.wr hw hq, h2⟩
theorem PN.free {w : World} {g : Nat} (n : Nat) (h : FM w g fun _ => none) : PN w g n frQ :=
  ⟨_, h, KG.none, fun i k hik hk => by unfold frQ; rw [if_neg (by omega)]; rfl⟩
theorem PN.congr {w : World} {g n : Nat} {M N : Nat → Nat → Nat} (h : PN w g n M) (e : ∀ i k, i < k → k < n → M i k = N i k) : PN w g n N := by
  obtain ⟨G, h1, h2, h3⟩ := h
  exact ⟨G, h1, h2, fun i k hik hk => (h3 i k hik hk).trans (e i k hik hk)⟩
/-- The network of points in a block of its own. -/
def PB (w : World) (b n g : Nat) : Prop := w.heap[b]? = some (.cells #[.int .i64 (n : Int), .map (some g)] 65 (0, 0))
theorem PB.lt {w : World} {b n g : Nat} (h : PB w b n g) : b < w.heap.size := (Array.getElem?_eq_some_iff.1 h).1
theorem PB.made (w : World) (n g : Nat) : PB (w.alloc (.cells #[.int .i64 (n : Int), .map (some g)] 65)) w.heap.size n g := heap_alloc_new w _
theorem PB.below {w w' : World} {b n g : Nat} (h : PB w b n g) (hb : Below w.heap.size w w') : PB w' b n g := (hb.block b h.lt).trans h
theorem PB.wr {w w' : World} {b n g q : Nat} (h : PB w b n g) (hw : Wr q w w') (hq : b ≠ q) : PB w' b n g := (hw.block b h.lt hq).trans h
theorem PB.c0 {w : World} {b n g : Nat} (h : PB w b n g) : w.cell? ⟨b, 0, none⟩ = some (.int .i64 (n : Int)) := by rw [cell_of_row w b _ _ _ _ h]; rfl
theorem PB.c1 {w : World} {b n g : Nat} (h : PB w b n g) : w.cell? ⟨b, 1, none⟩ = some (.map (some g)) := by rw [cell_of_row w b _ _ _ _ h]; rfl
theorem PB.fr {w : World} {b n g : Nat} (h : PB w b n g) (j : Nat) : w.frozen? ⟨b, j, none⟩ = false := frozen_of_row w b j _ _ h
theorem pairKq : Go.Maps.Keyed Tryd.prog 132 := Go.Maps.Keyed.of_law (deep_law_laid k_laid (m := 10) (by decide) (by decide +kernel) (by kernel_rfl) (by kernel_rfl))
theorem keys144 : ((List.range 12).all fun a => (List.range 12).all fun b => (keyOf Tryd.prog 132 (pvv (a, b))).isSome) = true := by kernel_rfl
theorem keyq {p : Nat × Nat} (h1 : p.1 < 12) (h2 : p.2 < 12) : ∃ kl, keyOf Tryd.prog 132 (pvv p) = some kl := by
  have := List.all_eq_true.1 (List.all_eq_true.1 keys144 p.1 (List.mem_range.2 h1)) p.2 (List.mem_range.2 h2)
  exact Option.isSome_iff_exists.1 this
theorem zeroSet (w : World) : (zeroValue 69).run Tryd.prog w = .ok (.int .i64 0) w := by kernel_rfl
theorem KG.keys {G : Nat × Nat → Option Nat} (h : KG G) : ∀ p v, G p = some v → ∃ kl, keyOf Tryd.prog 132 (pvv p) = some kl := fun p v hp => keyq (h p v hp).1 (h p v hp).2.1
set_option maxHeartbeats 1000000 in
theorem pset_lt (n : Int) (g : Nat) (G : Nat × Nat → Option Nat) (i k : Nat) (hik : i < k) (hk : k < 12) (w : World) (hF : FM w g G) (hK : KG G) :
    Calls Tryd.prog 55 #[.agg #[.int .i64 n, .map (some g)], .int .i64 i, .int .i64 k] w fun e w' => e = .returned (.int .i64 (((G (i, k)).getD 7 : Nat) : Int)) ∧ Below w.heap.size w w' := by
  have h1 : ((i : Int) == (k : Int)) = false := by rw [beq_eq_false_iff_ne]; omega
  have h2 : decide ((k : Int) < (i : Int)) = false := by simp; omega
  have HF := hid (hF.below ((Below.refl w.heap.size w).alloc (Nat.le_refl _) (.cells #[.int .i64 n, .map (some g)] 65)))
  have HK := hid hK.keys
  have HP := hid (keyq (p := (i, k)) (show i < 12 by omega) hk)
  clear hF hK
  cases hG : G (i, k) with
  | none =>
    have HG := hid hG
    clear hG
    have HS := AllLt.start w; go_enter Tryd.func55, Tryd.ntmps55
    go_wp2_with (at_lookup; refine wp_lookq _ rfl _ _ 63 rfl 132 69 pairKq Tryd.underlying63 (zeroSet _) g G rfl HF.out HK.out (i, k) rfl HP.out ?_; rw [HG.out])
    go_ret
    exact ⟨rfl, by (repeat' (first | (with_reducible exact Below.refl _ _) | (with_reducible refine Below.setCell ?_ ?_ _) | (with_reducible refine below_drewN' ?_ _) | (with_reducible refine below_drew' ?_) | (with_reducible refine Below.alloc ?_ ?_ _) | (with_reducible assumption) | go_size))⟩
  | some v =>
    have HG := hid hG
    clear hG
    have HS := AllLt.start w; go_enter Tryd.func55, Tryd.ntmps55
    go_wp2_with (at_lookup; refine wp_lookq _ rfl _ _ 63 rfl 132 69 pairKq Tryd.underlying63 (zeroSet _) g G rfl HF.out HK.out (i, k) rfl HP.out ?_; rw [HG.out])
    go_ret
    exact ⟨rfl, by (repeat' (first | (with_reducible exact Below.refl _ _) | (with_reducible refine Below.setCell ?_ ?_ _) | (with_reducible refine below_drewN' ?_ _) | (with_reducible refine below_drew' ?_) | (with_reducible refine Below.alloc ?_ ?_ _) | (with_reducible assumption) | go_size))⟩
set_option maxHeartbeats 1000000 in
theorem pset_any (g n : Nat) (N : Nat → Nat → Nat) (hN : OkP n N) (i k : Nat) (hi : i < n) (hk : k < n) (w : World) (hP : PN w g n N) (hT : TO w) :
    Calls Tryd.prog 55 #[.agg #[.int .i64 n, .map (some g)], .int .i64 i, .int .i64 k] w fun e w' => e = .returned (.int .i64 ((N i k : Nat) : Int)) ∧ Below w.heap.size w w' := by
  obtain ⟨G, hF, hK, hG⟩ := hP
  have h12 := hN.le
  rcases Nat.lt_trichotomy i k with e | e | e
  · have := pset_lt n g G i k e (by omega) w hF hK
    rw [hG i k e hk] at this
    exact this
  · subst e
    have HD := hid (hN.dia i hi)
    have h1 : ((i : Int) == (i : Int)) = true := by simp
    clear hG hF hK hN hT
    have HS := AllLt.start w; go_enter Tryd.func55, Tryd.ntmps55
    go_wp2_with (go_at_call 106; (with_reducible refine (ordersOf_new _ _ _ _ (by simp) (by unfold Ord; omega)).mono ?_); rintro e w' ⟨rfl, rfl⟩)
    go_ret
    exact ⟨ret_int (by rw [HD.out]; rfl), by (repeat' (first | (with_reducible exact Below.refl _ _) | (with_reducible refine Below.setCell ?_ ?_ _) | (with_reducible refine below_drewN' ?_ _) | (with_reducible refine below_drew' ?_) | (with_reducible refine Below.alloc ?_ ?_ _) | (with_reducible assumption) | go_size))⟩
  · have h1 : ((i : Int) == (k : Int)) = false := by rw [beq_eq_false_iff_ne]; omega
    have h2 : decide ((k : Int) < (i : Int)) = true := by simp; omega
    have hlt := hN.lt k i hk hi
    have HT := hid (hT.below ((Below.refl w.heap.size w).alloc (Nat.le_refl _) (.cells #[.int .i64 (n : Int), .map (some g)] 65)))
    have HF := hid (hF.below ((Below.refl w.heap.size w).alloc (Nat.le_refl _) (.cells #[.int .i64 (n : Int), .map (some g)] 65)))
    have HL := hid (pset_lt n g G k i e (by omega) _ HF.out hK)
    have HE := hid (hG k i e hi)
    have HV := hid (hN.tur k i hk hi)
    have HTP := hid (tp_tpn hlt)
    have HPV := hid (pv_nat hlt)
    have HB := hid ((Below.refl w.heap.size w).alloc (Nat.le_refl _) (.cells #[.int .i64 (n : Int), .map (some g)] 65))
    clear hF hK hG hN hT
    have HS := AllLt.start w; go_enter Tryd.func55, Tryd.ntmps55
    go_wp2_with fail
    (with_reducible refine HL.out.mono ?_)
    rintro e w2 ⟨rfl, hb⟩
    rw [HE.out]
    have HT2 := hid (HT.out.below hb)
    have HB2 := hid (HB.out.trans (hb.mono HB.out.size))
    clear hb
    go_wp2_with fail
    (with_reducible refine (turned_any _ _ HPV.out HT2.out).mono ?_)
    rintro e w3 ⟨rfl, hb⟩
    have HB3 := hid (HB2.out.trans (hb.mono HB2.out.size))
    clear hb
    go_wp2_with fail
    go_ret
    exact ⟨ret_int (by rw [HTP.out, HV.out]), HB3.out⟩
theorem PN.put_lt {w w' : World} {g n : Nat} {N : Nat → Nat → Nat} {G : Nat × Nat → Option Nat} (hK : KG G) (hG : ∀ i k, i < k → k < n → (G (i, k)).getD 7 = N i k) {i k r : Nat} (hik : i < k) (hk : k < 12) (hr : r < 8) (h : FM w' g (putG G (i, k) r)) : PN w' g n (putQ N i k r) := by
  refine ⟨_, h, hK.put (show i < 12 by omega) hk hr, fun a b hab hb => ?_⟩
  unfold putG putQ
  by_cases e : a = i ∧ b = k
  · obtain ⟨rfl, rfl⟩ := e
    rw [if_pos rfl, if_pos ⟨rfl, rfl⟩]; rfl
  · rw [if_neg (fun q => e (by simpa using q)), if_neg e, if_neg (by omega)]
    exact hG a b hab hb
theorem PN.put_gt {w w' : World} {g n : Nat} {N : Nat → Nat → Nat} {G : Nat × Nat → Option Nat} (hK : KG G) (hG : ∀ i k, i < k → k < n → (G (i, k)).getD 7 = N i k) {i k r : Nat} (hik : k < i) (hi : i < 12) (hr : r < 8) (h : FM w' g (putG G (k, i) (tpn r))) : PN w' g n (putQ N i k r) := by
  refine ⟨_, h, hK.put (show k < 12 by omega) hi (tpn_lt hr), fun a b hab hb => ?_⟩
  unfold putG putQ
  by_cases e : a = k ∧ b = i
  · obtain ⟨rfl, rfl⟩ := e
    rw [if_pos rfl, if_neg (by omega), if_pos ⟨rfl, rfl⟩]; rfl
  · rw [if_neg (fun q => e (by simpa using q)), if_neg (by omega), if_neg e]
    exact hG a b hab hb
set_option maxHeartbeats 1000000 in
theorem pput_any (g n : Nat) (N : Nat → Nat → Nat) (i k r : Nat) (hi : i < 12) (hk : k < 12) (hik : i ≠ k) (hr : r < 8) (w : World) (hP : PN w g n N) (hT : TO w) :
    Calls Tryd.prog 61 #[.agg #[.int .i64 (n : Int), .map (some g)], .int .i64 i, .int .i64 k, .int .i64 r] w fun e w' => e = .returned (.tuple #[]) ∧ PN w' g n (putQ N i k r) ∧ Wr g w w' := by
  obtain ⟨G, hF, hK, hG⟩ := hP
  have HKK := hid hK.keys
  have HB := hid ((Below.refl w.heap.size w).alloc (Nat.le_refl _) (.cells #[.int .i64 (n : Int), .map (some g)] 65))
  have HF := hid (hF.below HB.out)
  have HT := hid (hT.below HB.out)
  rcases Nat.lt_or_ge i k with e | e
  · have h2 : decide ((k : Int) < (i : Int)) = false := by simp; omega
    have HP := hid (keyq (p := (i, k)) hi hk)
    have HN := hid (fun (w' : World) (h : FM w' g (putG G (i, k) r)) => PN.put_lt (w := w) hK hG e hk hr h)
    clear hF hK hG hT
    have HS := AllLt.start w; go_enter Tryd.func61, Tryd.ntmps61
    go_wp2_with (at_mapUpdate; refine wp_storeq _ rfl _ _ _ 63 rfl 132 69 pairKq Tryd.underlying63 g G rfl HF.out HKK.out (i, k) rfl r rfl HP.out ?_)
    intro w2 hf hm
    have HR := hid (HN.out w2 hf)
    have HW := hid ((Wr.of_below (q := g) HB.out).trans hm.wr)
    clear hf hm
    go_wp2_with fail
    go_end0
    exact ⟨rfl, HR.out, HW.out⟩
  · have hki : k < i := by omega
    have h2 : decide ((k : Int) < (i : Int)) = true := by simp; omega
    have HP := hid (keyq (p := (k, i)) hk hi)
    have HN := hid (fun (w' : World) (h : FM w' g (putG G (k, i) (tpn r))) => PN.put_gt (w := w) hK hG hki hi hr h)
    have HTP := hid (tp_tpn hr)
    have HPV := hid (pv_nat hr)
    clear hF hK hG hT e
    have HS := AllLt.start w; go_enter Tryd.func61, Tryd.ntmps61
    go_wp2_with fail
    (with_reducible refine (turned_any _ _ HPV.out HT.out).mono ?_)
    rintro e w2 ⟨rfl, hb⟩
    rw [HTP.out]
    have HB2 := hid (HB.out.trans (hb.mono HB.out.size))
    have HF2 := hid (HF.out.below hb)
    have q1 := ((PB.made w n g).below hb).c1
    clear hb
    go_wp2_with (at_mapUpdate; refine wp_storeq _ rfl _ _ _ 63 rfl 132 69 pairKq Tryd.underlying63 g G rfl HF2.out HKK.out (k, i) rfl (tpn r) rfl HP.out ?_)
    intro w3 hf hm
    have HR := hid (HN.out w3 hf)
    have HW := hid ((Wr.of_below (q := g) HB2.out).trans hm.wr)
    clear hf hm
    go_wp2_with fail
    go_end0
    exact ⟨rfl, HR.out, HW.out⟩
theorem freeP_any (n : Nat) (h1 : 1 ≤ n) (h2 : n ≤ 12) (w : World) :
    Calls Tryd.prog 103 #[.int .i64 (n : Int)] w fun e w' => (∃ g, e = .returned (.tuple #[.agg #[.int .i64 (n : Int), .map (some g)], .bool true]) ∧ w.heap.size ≤ g ∧ FM w' g fun _ => none) ∧ Below w.heap.size w w' := by
  have d1 : decide ((n : Int) < 1) = false := by simp; omega
  have d2 : decide ((12 : Int) < (n : Int)) = false := by simp; omega
  have hmm := @run_makeMap Tryd.prog
  have HS := AllLt.start w; have hn2 := lt2; have hn3 := lt3; have hn4 := lt4; go_enter Tryd.func103, Tryd.ntmps103
  go_wp2_with fail
  have HM := hid (FM.made (w.alloc (.cells #[.int .i64 (n : Int), .map (some (w.heap.size + 1))] 65)))
  rw [World.size_alloc] at HM
  refine bodyPost_ret (by simp [results, Tryd.results103, go_sem, *]; try rfl) rfl ?_
  exact ⟨⟨_, rfl, Nat.le_succ _, HM.out⟩, by (repeat' (first | (with_reducible exact Below.refl _ _) | (with_reducible refine Below.setCell ?_ ?_ _) | (with_reducible refine below_drewN' ?_ _) | (with_reducible refine below_drew' ?_) | (with_reducible refine Below.alloc ?_ ?_ _) | (with_reducible assumption) | go_size))⟩
theorem freeP_off (z : Int) (h : ¬ (1 ≤ z ∧ z ≤ 12)) (w : World) :
    Calls Tryd.prog 103 #[.int .i64 z] w fun e w' => e = .returned (.tuple #[.agg #[.int .i64 0, .map none], .bool false]) ∧ Below w.heap.size w w' := by
  by_cases h1 : z < 1
  · have d1 : decide (z < 1) = true := by simp; omega
    clear h
    have HS := AllLt.start w; have hn2 := lt2; have hn3 := lt3; have hn4 := lt4; go_enter Tryd.func103, Tryd.ntmps103
    go_wp2_with fail
    refine bodyPost_ret (by simp [results, Tryd.results103, go_sem, *]; try rfl) rfl ?_
    exact ⟨rfl, by (repeat' (first | (with_reducible exact Below.refl _ _) | (with_reducible refine Below.setCell ?_ ?_ _) | (with_reducible refine below_drewN' ?_ _) | (with_reducible refine below_drew' ?_) | (with_reducible refine Below.alloc ?_ ?_ _) | (with_reducible assumption) | go_size))⟩
  · have d1 : decide (z < 1) = false := by simp; omega
    have d2 : decide (12 < z) = true := by simp; omega
    clear h h1
    have HS := AllLt.start w; have hn2 := lt2; have hn3 := lt3; have hn4 := lt4; go_enter Tryd.func103, Tryd.ntmps103
    go_wp2_with fail
    refine bodyPost_ret (by simp [results, Tryd.results103, go_sem, *]; try rfl) rfl ?_
    exact ⟨rfl, by (repeat' (first | (with_reducible exact Below.refl _ _) | (with_reducible refine Below.setCell ?_ ?_ _) | (with_reducible refine below_drewN' ?_ _) | (with_reducible refine below_drew' ?_) | (with_reducible refine Below.alloc ?_ ?_ _) | (with_reducible assumption) | go_size))⟩
theorem pqInfo : (Tryd.prog.info? 132).map (fun i => (i.zero, i.size, i.bytes)) = some (some (.agg #[.int .i64 0, .int .i64 0]), 2, 16) := by kernel_rfl
set_option maxHeartbeats 4000000 in
set_option maxRecDepth 100000 in
theorem ppairs_any (n g : Nat) (h12 : n ≤ 12) (w : World) :
    Calls Tryd.prog 104 #[.agg #[.int .i64 (n : Int), .map (some g)]] w fun e w' => (∃ v, e = .returned v ∧ w'.ownsRow (w.heap.size + 1) 132 2 v (pqL n).length (prQ (pqL n))) ∧ Below w.heap.size w w' := by
  obtain ⟨i0, hi0, hz0, hz1, hz2⟩ := info_parts pqInfo
  have HN0 := hid (PB.made w n g)
  have hc0 := HN0.out.c0
  have HS := AllLt.start w; go_enter Tryd.func104, Tryd.ntmps104
  go_wp2_with fail
  go_loopw [3, 9] (fun v a wr => ∃ i : Nat, i ≤ n ∧ a = .int .i64 i ∧ Hid (wr.ownsRow (w.heap.size + 1) 132 2 v (pqF n i).length (prQ (pqF n i))) ∧ Hid (PB wr w.heap.size n g) ∧ Hid (Below (w.heap.size + 1) (w.alloc (.cells #[.int .i64 (n : Int), .map (some g)] 65)) wr)) (fun _ a _ => n - (intOf a).toNat)
  case atStart => exact ⟨0, by omega, rfl, hid (World.ownsRow_nil _ _ _ _), HN0, hid (Below.refl _ _)⟩
  case round =>
    obtain ⟨i, hi, rfl, HO, HN, HB⟩ := hrel
    clear HS HN0 hc0
    by_cases hin : i < n
    · have hdi : decide ((i : Int) < (n : Int)) = true := by simp; omega
      have hcn := HN.out.c0
      go_wp2_with fail
      clear hcn
      go_loopw [3, 5] (fun v a wr => ∃ m : Nat, i + 1 ≤ m ∧ m ≤ n ∧ a = .int .i64 m ∧ Hid (wr.ownsRow (w.heap.size + 1) 132 2 v (pqF n i ++ pqI i (m - i - 1)).length (prQ (pqF n i ++ pqI i (m - i - 1)))) ∧ Hid (PB wr w.heap.size n g) ∧ Hid (Below (w.heap.size + 1) (w.alloc (.cells #[.int .i64 (n : Int), .map (some g)] 65)) wr)) (fun _ a _ => n - (intOf a).toNat)
      case atStart => exact ⟨i + 1, by omega, by omega, by go_num, by rw [show i + 1 - i - 1 = 0 by omega]; simpa [pqI] using HO, HN, HB⟩
      case round =>
        obtain ⟨m, hm, hmn, rfl, HO2, HN2, HB2⟩ := hrel
        (try clear HO HN HB)
        obtain ⟨wi, rfl⟩ : ∃ wi : World, wi = wr := ⟨_, rfl⟩
        have hcn := HN2.out.c0
        by_cases hkn : m < n
        · have hdk : decide ((m : Int) < (n : Int)) = true := by simp; omega
          have hlen : (pqF n i ++ pqI i (m - i - 1)).length ≤ 200 := by
            have := pqF_len h12 (show i ≤ n by omega)
            rw [List.length_append, pqI_len]; omega
          have hbase : Hid (w.heap.size + 1 ≤ wi.heap.size) := hid (by have := HB2.out.size; simpa using this)
          go_wp2_with (at_builtin; refine wpList_append_own _ rfl _ _ 129 rfl (w.heap.size + 1) 132 i0 _ 2 16 Tryd.underlying129 hi0 hz0 hz1 hz2 rfl (by decide) _ _ _ rfl (HO2.out.alloc _) ⟨wi.heap.size, 0, none⟩ 1 1 [.int .i64 i, .int .i64 m] rfl rfl ?c1 ?c2 ?c3 ?c4 ?c5 ?_)
          case c1 =>
            intro j u hj
            match j, hj with
            | 0, hj => simp at hj; subst hj; simp [Addr.add]
            | 1, hj => simp at hj; subst hj; simp [Addr.add]
          case c2 => intro u hu; simp at hu; rcases hu with rfl | rfl <;> rfl
          case c3 => unfold maxLen; omega
          case c4 => omega
          case c5 => have := hbase.out; simp; omega
          intro v' w3 hown' hgrow _
          have HB4 := hid ((HB2.out.alloc (by have := hbase.out; omega) _).grown hgrow (by have := hbase.out; simp; omega) (fun j hj => (HO2.out.lt j hj).1))
          have HN4 := hid (show PB w3 w.heap.size n g from (hgrow.block _ (by have := hbase.out; simp; omega) (fun e => by have := (HO2.out.lt _ e.symm).1; omega)).trans ((Below.heap_alloc wi _ _ HN2.out.lt).trans HN2.out))
          have HO4 : Hid (w3.ownsRow (w.heap.size + 1) 132 2 v' (pqF n i ++ pqI i (m + 1 - i - 1)).length (prQ (pqF n i ++ pqI i (m + 1 - i - 1)))) := hid (by
            have e0 : pqI i (m + 1 - i - 1) = pqI i (m - i - 1) ++ [(i, m)] := by rw [show m + 1 - i - 1 = (m - i - 1) + 1 by omega, pqI_succ, show i + 1 + (m - i - 1) = m by omega]
            have e1 : (pqF n i ++ pqI i (m + 1 - i - 1)).length = (pqF n i ++ pqI i (m - i - 1)).length + 1 := by rw [e0, ← List.append_assoc, List.length_append]; rfl
            rw [e1, e0, ← List.append_assoc, prQ_snoc, List.length_append]
            exact hown')
          clear hown' hgrow hcn
          go_wp2
          go_roundw
          case rel => exact ⟨m + 1, by omega, by omega, by go_num, HO4, HN4, HB4⟩
          case measure => simp [intOf]; omega
        · obtain rfl : m = n := by omega
          have hdk : decide ((m : Int) < (m : Int)) = false := by simp
          have HO4 : Hid (wi.ownsRow (w.heap.size + 1) 132 2 u3 (pqF m (i + 1)).length (prQ (pqF m (i + 1)))) := hid (by
            show wi.ownsRow _ _ _ _ (pqF m i ++ pqI i (m - 1 - i)).length (prQ (pqF m i ++ pqI i (m - 1 - i)))
            rw [show m - 1 - i = m - i - 1 by omega]; exact HO2.out)
          go_wp2
          go_roundw
          case rel => exact ⟨i + 1, by omega, by go_num, HO4, HN2, HB2⟩
          case measure => simp [intOf]; omega
    · obtain rfl : i = n := by omega
      have hdi : decide ((i : Int) < (i : Int)) = false := by simp
      go_wp2
      go_ret
      exact ⟨⟨_, rfl, HO.out⟩, ((Below.refl _ _).alloc (Nat.le_refl _) _).trans (HB.out.mono (by omega))⟩
theorem dg8_idx {k : Nat} (h : k < 8) (w : World) : (Instr.index 9 (.string ⟨#[48, 49, 50, 51, 52, 53, 54, 55]⟩) (.int .i64 k)).run Tryd.prog w = .ok (.int .u8 (dg8 k).toNat) w := by
  rcases nat8 h with rfl | rfl | rfl | rfl | rfl | rfl | rfl | rfl <;> kernel_rfl
theorem Bw.on {w0 : World} {b : Nat} {l : List UInt8} {w w' : World} (h : Bw w0 b l w) (hb : Below w.heap.size w w') : Bw w0 b l w' := by
  obtain ⟨h1, h2⟩ := h
  have key : ∀ p, Lib.BuilderAt 142 5 w0.heap.size b p (Lib.byteCells l) w → Lib.BuilderAt 142 5 w0.heap.size b p (Lib.byteCells l) w' := by
    rintro p ⟨hB, v, hbk, hown, hne⟩
    have hlt := (Array.getElem?_eq_some_iff.1 hbk).1
    exact ⟨hB, v, (hb.block b hlt).trans hbk, own_bel hown hb, hne⟩
  exact ⟨h1.imp (key _) (key _), h2.trans (hb.mono h2.size)⟩
theorem Bw.eq {w0 : World} {b : Nat} {l m : List UInt8} {w : World} (h : Bw w0 b l w) (e : l = m) : Bw w0 b m w := by rw [← e]; exact h
/-- A text's network of points in a block of its own. -/
def Pk (w : World) (g : Nat) (z : Int) (s : ByteArray) : Prop := w.heap[g]? = some (.cells #[.int .i64 z, .string s] 26 (0, 0))
section
variable {w w' : World} {g : Nat} {z : Int} {s : ByteArray}
theorem Pk.lt (h : Pk w g z s) : g < w.heap.size := (Array.getElem?_eq_some_iff.1 h).1
theorem Pk.made (w : World) (z : Int) (s : ByteArray) : Pk (w.alloc (.cells #[.int .i64 z, .string s] 26)) w.heap.size z s := heap_alloc_new w _
theorem Pk.below {B : Nat} (h : Pk w g z s) (hb : Below B w w') (hg : g < B) : Pk w' g z s := (hb.block g hg).trans h
theorem Pk.wr {q : Nat} (h : Pk w g z s) (hw : Wr q w w') (hq : g ≠ q) : Pk w' g z s := (hw.block g h.lt hq).trans h
theorem Pk.c0 (h : Pk w g z s) : w.cell? ⟨g, 0, none⟩ = some (.int .i64 z) := by rw [cell_of_row w g _ _ _ _ h]; rfl
theorem Pk.c1 (h : Pk w g z s) : w.cell? ⟨g, 1, none⟩ = some (.string s) := by rw [cell_of_row w g _ _ _ _ h]; rfl
theorem Pk.fr (h : Pk w g z s) (j : Nat) : w.frozen? ⟨g, j, none⟩ = false := frozen_of_row w g j _ _ h
end
theorem PB.at {w w' : World} {b n g B : Nat} (h : PB w b n g) (hb : Below B w w') (hB : b < B) : PB w' b n g := (hb.block b hB).trans h
theorem PN.at {w w' : World} {g n B : Nat} {N : Nat → Nat → Nat} (h : PN w g n N) (hb : Below B w w') (hB : g < B) : PN w' g n N := by
  obtain ⟨G, h1, h2⟩ := h
  exact ⟨G, h1.block (hb.block g hB), h2⟩
theorem ret_pnt {a : Int} {b c : ByteArray} (h : b = c) : Ending.returned (.agg #[.int .i64 a, .string b]) = .returned (.agg #[.int .i64 a, .string c]) := by rw [h]
set_option maxHeartbeats 4000000 in
set_option maxRecDepth 100000 in
theorem pnet_any (n g : Nat) (N : Nat → Nat → Nat) (hN : OkP n N) (w : World) (hP : PN w g n N) (hT : TO w) :
    Calls Tryd.prog 62 #[.agg #[.int .i64 (n : Int), .map (some g)]] w fun e w' => e = .returned (.agg #[.int .i64 (n : Int), .string (pntS n N)]) ∧ Below w.heap.size w w' := by
  have h12 := hN.le
  have HOK := hid hN
  have HG := hid hP.lt
  have HTL := hid (Tb.lt hT)
  have HZ := hid (((Below.refl w.heap.size w).alloc (Nat.le_refl _) (.cells #[.int .i64 (n : Int), .map (some g)] 65)).alloc (by simp) (.cells #[.int .i64 0, .string ⟨#[]⟩] 26))
  have HPP := hid (hP.below HZ.out)
  have HTT := hid (hT.below HZ.out)
  clear hP hT hN
  have HS := AllLt.start w; go_enter Tryd.func62, Tryd.ntmps62
  go_upto_region 2 with fail
  have HB0 := hid (show Bw ((w.alloc (.cells #[.int .i64 (n : Int), .map (some g)] 65)).alloc (.cells #[.int .i64 0, .string ⟨#[]⟩] 26)) (w.heap.size + 1 + 1) [] (((w.alloc (.cells #[.int .i64 (n : Int), .map (some g)] 65)).alloc (.cells #[.int .i64 0, .string ⟨#[]⟩] 26)).alloc (.cells #[.pointer none, .slice none 0 0] 142)) by
    have h := Bw.start _ ((w.alloc (.cells #[.int .i64 (n : Int), .map (some g)] 65)).alloc (.cells #[.int .i64 0, .string ⟨#[]⟩] 26)) (Below.refl _ _)
    rw [World.size_alloc, World.size_alloc] at h
    exact h)
  have HN0 := hid (show PB ((w.alloc (.cells #[.int .i64 (n : Int), .map (some g)] 65)).alloc (.cells #[.int .i64 0, .string ⟨#[]⟩] 26)) w.heap.size n g from (PB.made w n g).below ((Below.refl _ _).alloc (Nat.le_refl _) _))
  have HK0 := hid (show Pk ((w.alloc (.cells #[.int .i64 (n : Int), .map (some g)] 65)).alloc (.cells #[.int .i64 0, .string ⟨#[]⟩] 26)) (w.heap.size + 1) 0 ⟨#[]⟩ by
    have h := Pk.made (w.alloc (.cells #[.int .i64 (n : Int), .map (some g)] 65)) 0 ⟨#[]⟩
    rw [World.size_alloc] at h
    exact h)
  generalize hw1 : ((w.alloc (.cells #[.int .i64 (n : Int), .map (some g)] 65)).alloc (.cells #[.int .i64 0, .string ⟨#[]⟩] 26)).alloc (.cells #[.pointer none, .slice none 0 0] 142) = w1 at *
  clear hw1
  generalize hw0 : (w.alloc (.cells #[.int .i64 (n : Int), .map (some g)] 65)).alloc (.cells #[.int .i64 0, .string ⟨#[]⟩] 26) = w0 at *
  have hsz : Hid (w0.heap.size = w.heap.size + 1 + 1) := hid (by rw [← hw0, World.size_alloc, World.size_alloc])
  clear hw0
  have hc1 := (HN0.out.at HB0.out.2 (by rw [hsz.out]; omega)).c0
  go_wp2_with fail
  clear hc1
  go_loopw [9] (fun v wr => ∃ i : Nat, i ≤ n ∧ v = .int .i64 i ∧ Hid (Bw w0 (w.heap.size + 1 + 1) (dgL (flP n N) (i * n + 0)) wr)) (fun v _ => n - (intOf v).toNat)
  case atStart => exact ⟨0, by omega, rfl, hid (HB0.out.eq (by simp [dgL]))⟩
  case round =>
    obtain ⟨i, hi, rfl, HB⟩ := hrel
    clear HS HB0
    by_cases hin : i < n
    · have hdi : decide ((i : Int) < (n : Int)) = true := by simp; omega
      have hc2 := (HN0.out.at HB.out.2 (by rw [hsz.out]; omega)).c0
      go_wp2_with fail
      clear hc2
      go_loopw [15] (fun v wr => ∃ k : Nat, k ≤ n ∧ v = .int .i64 k ∧ Hid (Bw w0 (w.heap.size + 1 + 1) (dgL (flP n N) (i * n + k)) wr)) (fun v _ => n - (intOf v).toNat)
      case atStart => exact ⟨0, by omega, rfl, HB⟩
      case round =>
        obtain ⟨k, hk, rfl, HB2⟩ := hrel
        obtain ⟨wi, rfl⟩ : ∃ wi : World, wi = wr := ⟨_, rfl⟩
        by_cases hkn : k < n
        · have hdk : decide ((k : Int) < (n : Int)) = true := by simp; omega
          have hx := HN0.out.at HB2.out.2 (by rw [hsz.out]; omega)
          have hc0 := hx.c0
          have hc1 := hx.c1
          clear hx
          have HPi := hid (HPP.out.at HB2.out.2 (by have := HG.out; rw [hsz.out]; omega))
          have HTi := hid (show TO wi from Tb.below HTT.out HB2.out.2 (by have := HTL.out; rw [hsz.out]; omega))
          have HST := hid (show dgL (flP n N) (i * n + k) ++ [dg8 (N i k)] = dgL (flP n N) (i * n + (k + 1)) by
            rw [show i * n + (k + 1) = (i * n + k) + 1 by omega, dgL_succ, flP_at N hkn])
          have HLE := hid (show (dgL (flP n N) (i * n + k)).length + 1 ≤ 140737488355328 by
            have h1 := pat_lt hin hkn
            have h2 : n * n ≤ 144 := Nat.mul_le_mul h12 h12
            rw [dgL_len]; omega)
          have HSE := hid (pset_any g n N HOK.out i k hin hkn wi HPi.out HTi.out)
          have hdx := @dg8_idx (N i k) (HOK.out.lt i k hin hkn)
          go_wp2_with fail
          (with_reducible refine HSE.out.mono ?_)
          rintro e w2 ⟨rfl, hb⟩
          have HB3 := hid (HB2.out.on hb)
          clear hb hc0 hc1
          go_wp2_with fail
          (with_reducible refine (WriteByte_w w0 _ _ (dg8 (N i k)) _ HB3.out HLE.out).mono ?_)
          rintro e w3 ⟨rfl, hb⟩
          have HB4 := hid (hb.eq HST.out)
          clear hb
          go_wp2_with fail
          go_roundw
          case rel => exact ⟨k + 1, by omega, by go_num, HB4⟩
          case measure => simp [intOf]; omega
        · obtain rfl : k = n := by omega
          have hdk : decide ((k : Int) < (k : Int)) = false := by simp
          have HB4 := hid (HB2.out.eq (show dgL (flP k N) (i * k + k) = dgL (flP k N) ((i + 1) * k + 0) by rw [Nat.add_mul]; simp))
          go_wp2_with fail
          go_roundw
          case rel => exact ⟨i + 1, by omega, by go_num, HB4⟩
          case measure => simp [intOf]; omega
    · obtain rfl : i = n := by omega
      have hdi : decide ((i : Int) < (i : Int)) = false := by simp
      have hx := HN0.out.at HB.out.2 (by rw [hsz.out]; omega)
      have c0 := hx.c0
      have HKr := HK0.out.below HB.out.2 (by rw [hsz.out]; omega)
      have r0 := HKr.c0
      have r1 := HKr.c1
      have rf0 := HKr.fr 0
      have rf1 := HKr.fr 1
      clear hx HKr
      have HBd := hid (HB.out.on ((Below.refl _ _).drew))
      go_wp2_with fail
      go_region_with (first | (go_at_call 110; (with_reducible refine (String_w w0 _ _ _ HBd.out).mono ?_); rintro e w2 ⟨rfl, hb⟩; have HB5 := hid hb; have hx := HN0.out.at hb (by rw [hsz.out]; omega); have c5 := hx.c0; have HKr := HK0.out.below hb (by rw [hsz.out]; omega); have s0 := HKr.c0; have s1 := HKr.c1; have sf0 := HKr.fr 0; have sf1 := HKr.fr 1; clear hx HKr hb) | fail)
      all_goals
        go_wp2_with fail
        refine bodyPost_ret (by simp [results, Tryd.results62, go_sem, *]; try rfl) rfl ?_
        exact ⟨ret_pnt (by rfl), ((HZ.out.trans (HB5.out.mono (by rw [hsz.out]; omega))).setCell (p := ⟨w.heap.size + 1, 0, none⟩) (by simp) _).setCell (p := ⟨w.heap.size + 1, 1, none⟩) (by simp) _⟩
end Go.Proofs.YtmdgkhebefnfeaaDoor.C
