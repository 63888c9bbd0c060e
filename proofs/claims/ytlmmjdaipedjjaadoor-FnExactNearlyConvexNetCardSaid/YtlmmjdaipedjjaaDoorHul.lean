/- Chapter 4: convex hulls: the program's walks. -/
import Derived.Test.YtlmmjdaipedjjaaDoorLsg
import Derived.Deep.RegionWith
import Derived.Deep.RegionHeld3
namespace Go.Proofs.YtlmmjdaipedjjaaDoor.C
open Go.RowKit
set_option linter.unusedVariables false
set_option linter.unusedSimpArgs false
theorem noZones_any (w : World) :
    Calls Tryd.prog 149 #[] w fun e w' => e = .returned (.agg #[.int .i64 4, .int .i64 0]) ∧ Below w.heap.size w w' := by
  have HS := AllLt.start w; go_enter Tryd.func149, Tryd.ntmps149
  go_wp2
  refine bodyPost_ret (by simp [results, Tryd.results149, go_sem, *]; try rfl) rfl ?_
  exact ⟨rfl, by (repeat' (first | (with_reducible exact Below.refl _ _) | (with_reducible refine Below.setCell ?_ ?_ _) | (with_reducible refine below_drewN' ?_ _) | (with_reducible refine below_drew' ?_) | (with_reducible refine Below.alloc ?_ ?_ _) | (with_reducible assumption) | go_size))⟩
theorem ret_a2 {a b a' b' : Int} (h : a = a') (h' : b = b') : Ending.returned (.agg #[.int .i64 a, .int .i64 b]) = .returned (.agg #[.int .i64 a', .int .i64 b']) := by rw [h, h']
theorem swith_any (a b z : Int) (w : World) :
    Calls Tryd.prog 151 #[.agg #[.int .i64 a, .int .i64 b], .int .i64 z] w fun e w' => e = .returned (.agg #[.int .i64 (min a z), .int .i64 (max b z)]) ∧ Below w.heap.size w w' := by
  have HS := AllLt.start w; go_enter Tryd.func151, Tryd.ntmps151
  go_wp2
  all_goals
    refine bodyPost_ret (by simp [results, Tryd.results151, go_sem, *]; try rfl) rfl ?_
    exact ⟨ret_a2 (by omega) (by omega), by (repeat' (first | (with_reducible exact Below.refl _ _) | (with_reducible refine Below.setCell ?_ ?_ _) | (with_reducible refine below_drewN' ?_ _) | (with_reducible refine below_drew' ?_) | (with_reducible refine Below.alloc ?_ ?_ _) | (with_reducible assumption) | go_size))⟩
theorem shas_any (a b z : Int) (w : World) :
    Calls Tryd.prog 153 #[.agg #[.int .i64 a, .int .i64 b], .int .i64 z] w fun e w' => e = .returned (.bool (btw a z b)) ∧ Below w.heap.size w w' := by
  by_cases h : a ≤ z
  · have hd : decide (a ≤ z) = true := by simpa using h
    have HS := AllLt.start w; go_enter Tryd.func153, Tryd.ntmps153
    go_wp2
    go_ret
    exact ⟨ret_bool (by simp [btw, h]), by (repeat' (first | (with_reducible exact Below.refl _ _) | (with_reducible refine Below.setCell ?_ ?_ _) | (with_reducible refine below_drewN' ?_ _) | (with_reducible refine below_drew' ?_) | (with_reducible refine Below.alloc ?_ ?_ _) | (with_reducible assumption) | go_size))⟩
  · have hd : decide (a ≤ z) = false := by simpa using h
    have HS := AllLt.start w; go_enter Tryd.func153, Tryd.ntmps153
    go_wp2
    go_ret
    exact ⟨ret_bool (by simp [btw]; omega), by (repeat' (first | (with_reducible exact Below.refl _ _) | (with_reducible refine Below.setCell ?_ ?_ _) | (with_reducible refine below_drewN' ?_ _) | (with_reducible refine below_drew' ?_) | (with_reducible refine Below.alloc ?_ ?_ _) | (with_reducible assumption) | go_size))⟩
theorem fhull_any (a b c d : Int) (k : Nat) (hk : k < 13) (p q : Nat) (w : World) (h1 : w.cell? ⟨p, 0, none⟩ = some (.int .i64 a)) (h2 : w.cell? ⟨p, 1, none⟩ = some (.int .i64 b)) (h3 : w.cell? ⟨q, 0, none⟩ = some (.int .i64 c)) (h4 : w.cell? ⟨q, 1, none⟩ = some (.int .i64 d)) (hT : TB w) :
    Calls Tryd.prog 152 #[.int .i64 k, .pointer (some ⟨p, 0, none⟩), .pointer (some ⟨q, 0, none⟩)] w fun e w' => e = .returned (.bool (inZ a b c d k)) ∧ Below w.heap.size w w' := by
  have HT := hid hT
  clear hT
  have HZ := hid (zones_any k hk)
  have HP : Hid (inZ a b c d k = (btw a (zf k) b && btw c (zt k) d)) := hid rfl
  have hq := cell_lt' h3
  have HQ3 := hid h3
  have HQ4 := hid h4
  generalize zf k = x at *
  generalize zt k = y at *
  cases q1 : btw a x b
  · have HQ := hid q1
    have HR := hid (show inZ a b c d k = false by rw [HP.out, q1]; rfl)
    clear q1 HP
    have HS := AllLt.start w; go_enter Tryd.func152, Tryd.ntmps152
    go_wp2_with (first | (go_at_call 150; (with_reducible refine (HZ.out _ HT.out).mono ?_); rintro e w' ⟨rfl, n, rfl⟩) | (go_at_call 153; (with_reducible refine (shas_any a b x _).mono ?_); rintro e w' ⟨rfl, hb⟩; rw [HQ.out]))
    go_ret
    exact ⟨ret_bool HR.out.symm, by exact (below_drewN _ _ _).trans hb⟩
  · have HQ := hid q1
    have HR := hid (show inZ a b c d k = btw c y d by rw [HP.out, q1]; rfl)
    clear q1 HP h3 h4
    have HS := AllLt.start w; go_enter Tryd.func152, Tryd.ntmps152
    go_wp2_with (first | (go_at_call 150; (with_reducible refine (HZ.out _ HT.out).mono ?_); rintro e w' ⟨rfl, n, rfl⟩) | (go_at_call 153; (with_reducible refine (shas_any a b x _).mono ?_); rintro e w2 ⟨rfl, hb2⟩; rw [HQ.out]; have hc3 := (hb2.cell (p := ⟨q, 0, none⟩) hq).trans HQ3.out; have hc4 := (hb2.cell (p := ⟨q, 1, none⟩) hq).trans HQ4.out; have HB2 := hid hb2; clear hb2) | (go_at_call 153; (with_reducible refine (shas_any c d y _).mono ?_); rintro e w3 ⟨rfl, hb3⟩))
    go_ret
    exact ⟨ret_bool HR.out.symm, by exact (below_drewN _ _ _).trans (HB2.out.trans (hb3.mono HB2.out.size))⟩
set_option maxHeartbeats 1000000 in
theorem rwhere_hull (a b c d : Int) (p q : Nat) (w : World) (h1 : w.cell? ⟨p, 0, none⟩ = some (.int .i64 a)) (h2 : w.cell? ⟨p, 1, none⟩ = some (.int .i64 b)) (h3 : w.cell? ⟨q, 0, none⟩ = some (.int .i64 c)) (h4 : w.cell? ⟨q, 1, none⟩ = some (.int .i64 d)) (hT : TB w) :
    Calls Tryd.prog 129 #[.func (.func 152) #[] #[.pointer (some ⟨p, 0, none⟩), .pointer (some ⟨q, 0, none⟩)]] w fun e w' => e = .returned (.int .i64 ((whN (inZ a b c d) : Nat) : Int)) ∧ Below w.heap.size w w' := by
  have HT := hid hT
  clear hT
  have H1 := hid h1
  have H2 := hid h2
  have H3 := hid h3
  have H4 := hid h4
  have hp : p < w.heap.size := cell_lt' h1
  have hq : q < w.heap.size := cell_lt' h3
  clear h1 h2 h3 h4
  have HS := AllLt.start w; go_enter Tryd.func129, Tryd.ntmps129
  go_wp2
  go_loopw [3, 5] (fun acc v wr => ∃ k : Nat, k ≤ 13 ∧ v = .int .i64 k ∧ acc = .int .i64 ((whF (inZ a b c d) k : Nat) : Int) ∧ Hid (Below w.heap.size w wr)) (fun _ v _ => 13 - (intOf v).toNat)
  case atStart => exact ⟨0, by omega, rfl, rfl, hid (Below.refl _ _)⟩
  case round =>
    obtain ⟨k, hk, rfl, rfl, HB⟩ := hrel
    clear HS
    by_cases h13 : k < 13
    · have hdi : decide ((k : Int) < 13) = true := by simp; omega
      cases hqq : (inZ a b c d) k
      · have HF := hid (whF_miss hqq)
        have HQ := hid hqq
        clear hqq
        go_wp2_with (first | (go_at_call 152; (with_reducible refine (fhull_any a b c d k h13 p q _ (by rw [HB.out.cell (p := ⟨p, 0, none⟩) hp]; exact H1.out) (by rw [HB.out.cell (p := ⟨p, 1, none⟩) hp]; exact H2.out) (by rw [HB.out.cell (p := ⟨q, 0, none⟩) hq]; exact H3.out) (by rw [HB.out.cell (p := ⟨q, 1, none⟩) hq]; exact H4.out) (HT.out.below HB.out)).mono ?_); rintro e w' ⟨rfl, hb⟩; rw [HQ.out]))
        go_roundw
        case rel => exact ⟨k + 1, by omega, by go_num, by rw [HF.out], hid (HB.out.trans (hb.mono HB.out.size))⟩
        case measure => simp [intOf]; omega
      · have HF := hid ((i64_or _ _ (whF_lt (p := inZ a b c d) hk) (pow_lt h13)).trans (congrArg _ (whF_hit hqq).symm))
        have HQ := hid hqq
        clear hqq
        go_wp2_with (first | (go_at_call 152; (with_reducible refine (fhull_any a b c d k h13 p q _ (by rw [HB.out.cell (p := ⟨p, 0, none⟩) hp]; exact H1.out) (by rw [HB.out.cell (p := ⟨p, 1, none⟩) hp]; exact H2.out) (by rw [HB.out.cell (p := ⟨q, 0, none⟩) hq]; exact H3.out) (by rw [HB.out.cell (p := ⟨q, 1, none⟩) hq]; exact H4.out) (HT.out.below HB.out)).mono ?_); rintro e w' ⟨rfl, hb⟩; rw [HQ.out]) | (go_at_call 154; (with_reducible refine (relationOf_any k h13 _).mono ?_); rintro e w' ⟨rfl, rfl⟩))
        go_roundw
        case rel => exact ⟨k + 1, by omega, by go_num, ret_val HF.out, hid (HB.out.trans (hb.mono HB.out.size))⟩
        case measure => simp [intOf]; omega
    · obtain rfl : k = 13 := by omega
      have hdi : decide (((13 : Nat) : Int) < 13) = false := by simp
      go_wp2
      go_ret
      exact ⟨rfl, HB.out⟩
/-- Two zones in a block. -/
structure SpAt (w : World) (b : Nat) (x y : Int) : Prop where
  c0 : w.cell? ⟨b, 0, none⟩ = some (.int .i64 x)
  c1 : w.cell? ⟨b, 1, none⟩ = some (.int .i64 y)
  f : ∀ i, w.frozen? ⟨b, i, none⟩ = false
  lt : b < w.heap.size
theorem SpAt.f0 {w w' : World} {b : Nat} {x y : Int} (h : SpAt w b x y) (hb : Below w.heap.size w w') : ∀ i, w'.frozen? ⟨b, i, none⟩ = false := fun i => (hb.frozen (p := ⟨b, i, none⟩) h.lt).trans (h.f i)
theorem sp_set {w : World} {A : Nat} {a1 a2 a3 a4 x y z u : Int} (h1 : SpAt w A a1 a2) (h2 : SpAt w (A + 1) a3 a4) :
    SpAt ((((w.setCell ⟨A, 0, none⟩ (.int .i64 x)).setCell ⟨A, 1, none⟩ (.int .i64 y)).setCell ⟨A + 1, 0, none⟩ (.int .i64 z)).setCell ⟨A + 1, 1, none⟩ (.int .i64 u)) A x y ∧
    SpAt ((((w.setCell ⟨A, 0, none⟩ (.int .i64 x)).setCell ⟨A, 1, none⟩ (.int .i64 y)).setCell ⟨A + 1, 0, none⟩ (.int .i64 z)).setCell ⟨A + 1, 1, none⟩ (.int .i64 u)) (A + 1) z u ∧
    (∀ b i, A + 1 < b → ((((w.setCell ⟨A, 0, none⟩ (.int .i64 x)).setCell ⟨A, 1, none⟩ (.int .i64 y)).setCell ⟨A + 1, 0, none⟩ (.int .i64 z)).setCell ⟨A + 1, 1, none⟩ (.int .i64 u)).cell? ⟨b, i, none⟩ = w.cell? ⟨b, i, none⟩) ∧
    ((((w.setCell ⟨A, 0, none⟩ (.int .i64 x)).setCell ⟨A, 1, none⟩ (.int .i64 y)).setCell ⟨A + 1, 0, none⟩ (.int .i64 z)).setCell ⟨A + 1, 1, none⟩ (.int .i64 u)).heap.size = w.heap.size := by
  obtain ⟨c0, c1, f1, l1⟩ := h1
  obtain ⟨d0, d1, f2, l2⟩ := h2
  refine ⟨⟨?_, ?_, fun i => ?_, ?_⟩, ⟨?_, ?_, fun i => ?_, ?_⟩, fun b i hb => ?_, ?_⟩
  · simp [go_sem, c0, c1, d0, d1]
  · simp [go_sem, c0, c1, d0, d1]
  · simp [go_sem, f1]
  · simpa using l1
  · simp [go_sem, c0, c1, d0, d1]
  · simp [go_sem, c0, c1, d0, d1]
  · simp [go_sem, f2]
  · simpa using l2
  · have e1 : ¬ A + 1 = b := by omega
    have e2 : ¬ A = b := by omega
    have e3 : ¬ b = A + 1 := by omega
    have e4 : ¬ b = A := by omega
    simp [go_sem, e1, e2, e3, e4]
  · simp
theorem SpAt.below {w w' : World} {b : Nat} {x y : Int} (h : SpAt w b x y) (hb : Below w.heap.size w w') : SpAt w' b x y :=
  ⟨(hb.cell (p := ⟨b, 0, none⟩) h.lt).trans h.c0, (hb.cell (p := ⟨b, 1, none⟩) h.lt).trans h.c1, fun i => (hb.frozen (p := ⟨b, i, none⟩) h.lt).trans (h.f i), Nat.lt_of_lt_of_le h.lt hb.size⟩
set_option maxHeartbeats 4000000 in
set_option maxRecDepth 100000 in
theorem hull_any (n : Nat) (hn : n < 8192) (w : World) (hT : TB w) :
    Calls Tryd.prog 125 #[.int .i64 n] w fun e w' => e = .returned (.int .i64 ((hull n : Nat) : Int)) ∧ Below w.heap.size w w' := by
  have HT := hid hT
  clear hT
  have HS := AllLt.start w; go_enter Tryd.func125, Tryd.ntmps125
  go_wp2_with fail
  (with_reducible refine (noZones_any _).mono ?_)
  rintro e w1 ⟨rfl, hb1⟩
  go_wp2_with fail
  (with_reducible refine (noZones_any _).mono ?_)
  rintro e w2 ⟨rfl, hb2⟩
  have HB2 := hid (hb1.trans (hb2.mono hb1.size))
  clear hb1 hb2
  go_wp2_with fail
  have hsp1 : SpAt ((w2.alloc (.cells #[.int .i64 4, .int .i64 0] 170)).alloc (.cells #[.int .i64 4, .int .i64 0] 170)) w2.heap.size 4 0 := ⟨by simp [go_sem], by simp [go_sem], fun i => by simp [go_sem], by rw [World.size_alloc, World.size_alloc]; omega⟩
  have hsp2 : SpAt ((w2.alloc (.cells #[.int .i64 4, .int .i64 0] 170)).alloc (.cells #[.int .i64 4, .int .i64 0] 170)) (w2.heap.size + 1) 4 0 := ⟨by simp [go_sem], by simp [go_sem], fun i => by simp [go_sem], by rw [World.size_alloc, World.size_alloc]; omega⟩
  have hB3 := (HB2.out.alloc HB2.out.size (.cells #[.int .i64 4, .int .i64 0] 170)).alloc (Nat.le_trans HB2.out.size (by simp)) (.cells #[.int .i64 4, .int .i64 0] 170)
  have hA : w.heap.size ≤ w2.heap.size := HB2.out.size
  have hW : ((w2.alloc (.cells #[.int .i64 4, .int .i64 0] 170)).alloc (.cells #[.int .i64 4, .int .i64 0] 170)).heap.size = w2.heap.size + 2 := by simp
  generalize hA2 : w2.heap.size = A at *
  generalize ((w2.alloc (.cells #[.int .i64 4, .int .i64 0] 170)).alloc (.cells #[.int .i64 4, .int .i64 0] 170)) = W at *
  (with_reducible refine (basics_any n hn _ (HT.out.below hB3)).mono ?_)
  rintro e w3 ⟨v, rfl, ho, hb3⟩
  obtain ⟨a, cap, rfl, h3⟩ := ho.ls2
  have HN : Hid (hull n = whN (inZ (loZ zf (bl n.testBit 13)) (hiZ zf (bl n.testBit 13)) (loZ zt (bl n.testBit 13)) (hiZ zt (bl n.testBit 13)))) := hid rfl
  have hl13 := bl_len n.testBit 13
  have hlt : ∀ x ∈ bl n.testBit 13, x < 13 := fun x hx => bl_lt hx
  generalize bl n.testBit 13 = l at *
  have HB3 := hid (hB3.trans (hb3.mono hB3.size))
  have HI : Hid (SpAt w3 A 4 0 ∧ SpAt w3 (A + 1) 4 0 ∧ (∀ i, i < l.length → ∃ g, a = some ⟨g, 0, none⟩ ∧ g < w3.heap.size ∧ A + 1 < g ∧ w3.cell? ⟨g, i, none⟩ = some (.int .i64 ((l.getD i 0 : Nat) : Int))) ∧ Below w.heap.size w w3) := hid
    ⟨hsp1.below hb3, hsp2.below hb3, fun i hi => by obtain ⟨g, e1, e2, e3, e4⟩ := h3 i hi; exact ⟨g, e1, e3, by omega, e4⟩, HB3.out⟩
  clear hsp1 hsp2 hB3 ho hb3 h3 HB3 HB2 hW
  go_wp2
  go_loopw [14] (fun i wr => ∃ k : Nat, k ≤ l.length ∧ i = .int .i64 k ∧ Hid (SpAt wr A (loZ zf (l.take k)) (hiZ zf (l.take k)) ∧ SpAt wr (A + 1) (loZ zt (l.take k)) (hiZ zt (l.take k)) ∧ (∀ i, i < l.length → ∃ g, a = some ⟨g, 0, none⟩ ∧ g < wr.heap.size ∧ A + 1 < g ∧ wr.cell? ⟨g, i, none⟩ = some (.int .i64 ((l.getD i 0 : Nat) : Int))) ∧ Below w.heap.size w wr)) (fun i _ => l.length - (intOf i).toNat)
  case atStart => exact ⟨0, by omega, rfl, HI⟩
  case round =>
    obtain ⟨k, hk, rfl, HI2⟩ := hrel
    clear HS HI
    obtain ⟨wo, rfl⟩ : ∃ wo : World, wo = wr := ⟨_, rfl⟩
    by_cases hkl : k < l.length
    · have hdi : decide ((k : Int) < (l.length : Int)) = true := by simp; omega
      have hdj : decide (k < l.length) = true := by simp; omega
      obtain ⟨g, rfl, hg, hgA, hc⟩ := HI2.out.2.2.1 k hkl
      have hx13 := hlt _ (getN_mem hkl)
      have HT1 := hid (congrArg (loZ zf) (takeN l k hkl) |>.trans (loZ_snoc _ _ _))
      have HT2 := hid (congrArg (hiZ zf) (takeN l k hkl) |>.trans (hiZ_snoc _ _ _))
      have HT3 := hid (congrArg (loZ zt) (takeN l k hkl) |>.trans (loZ_snoc _ _ _))
      have HT4 := hid (congrArg (hiZ zt) (takeN l k hkl) |>.trans (hiZ_snoc _ _ _))
      generalize l.getD k 0 = x at *
      have HZ := hid (zones_any x hx13)
      generalize zf x = zx at *
      generalize zt x = zy at *
      generalize loZ zf (l.take k) = a1 at *
      generalize hiZ zf (l.take k) = a2 at *
      generalize loZ zt (l.take k) = a3 at *
      generalize hiZ zt (l.take k) = a4 at *
      go_wp2_with (first | (go_at_call 150; (with_reducible refine (HZ.out _ (HT.out.below HI2.out.2.2.2)).mono ?_); rintro e w' ⟨rfl, nn, rfl⟩))
      have HJ : Hid (SpAt (wo.drewN nn) A a1 a2 ∧ SpAt (wo.drewN nn) (A + 1) a3 a4 ∧ (∀ i, i < l.length → ∃ g', some (⟨g, 0, none⟩ : Addr) = some ⟨g', 0, none⟩ ∧ g' < (wo.drewN nn).heap.size ∧ A + 1 < g' ∧ (wo.drewN nn).cell? ⟨g', i, none⟩ = some (.int .i64 ((l.getD i 0 : Nat) : Int))) ∧ Below w.heap.size w (wo.drewN nn)) := hid ⟨⟨HI2.out.1.c0, HI2.out.1.c1, HI2.out.1.f, HI2.out.1.lt⟩, ⟨HI2.out.2.1.c0, HI2.out.2.1.c1, HI2.out.2.1.f, HI2.out.2.1.lt⟩, HI2.out.2.2.1, by exact below_drewN' HI2.out.2.2.2 _⟩
      clear HI2 hc hg
      generalize wo.drewN nn = wq at *
      have c1 := HJ.out.1.c0
      have c2 := HJ.out.1.c1
      have c3 := HJ.out.2.1.c0
      have c4 := HJ.out.2.1.c1
      have f1 := HJ.out.1.f 0
      have f2 := HJ.out.1.f 1
      have f3 := HJ.out.2.1.f 0
      have f4 := HJ.out.2.1.f 1
      have la := HJ.out.1.lt
      have lb := HJ.out.2.1.lt
      have HB8 := hid (below_drew' (Below.refl wq.heap.size wq))
      go_region_with (first | (go_at_call 151; (with_reducible refine (swith_any a1 a2 zx _).mono ?_); rintro e w' ⟨rfl, hb⟩; have hz := hb.size; have c1 := (hb.cell (p := ⟨A, 0, none⟩) la).trans c1; have f1 := (hb.frozen (p := ⟨A, 0, none⟩) la).trans f1; have c2 := (hb.cell (p := ⟨A, 1, none⟩) la).trans c2; have f2 := (hb.frozen (p := ⟨A, 1, none⟩) la).trans f2; have c3 := (hb.cell (p := ⟨A + 1, 0, none⟩) lb).trans c3; have f3 := (hb.frozen (p := ⟨A + 1, 0, none⟩) lb).trans f3; have c4 := (hb.cell (p := ⟨A + 1, 1, none⟩) lb).trans c4; have f4 := (hb.frozen (p := ⟨A + 1, 1, none⟩) lb).trans f4; have la := Nat.lt_of_lt_of_le la hz; have lb := Nat.lt_of_lt_of_le lb hz; have HB9 := hid (HB8.out.trans (hb.mono HB8.out.size)); have HB8 := HB9; clear hb hz) | (go_at_call 151; (with_reducible refine (swith_any a3 a4 zy _).mono ?_); rintro e w' ⟨rfl, hb⟩; have hz := hb.size; have c1 := (hb.cell (p := ⟨A, 0, none⟩) la).trans c1; have f1 := (hb.frozen (p := ⟨A, 0, none⟩) la).trans f1; have c2 := (hb.cell (p := ⟨A, 1, none⟩) la).trans c2; have f2 := (hb.frozen (p := ⟨A, 1, none⟩) la).trans f2; have c3 := (hb.cell (p := ⟨A + 1, 0, none⟩) lb).trans c3; have f3 := (hb.frozen (p := ⟨A + 1, 0, none⟩) lb).trans f3; have c4 := (hb.cell (p := ⟨A + 1, 1, none⟩) lb).trans c4; have f4 := (hb.frozen (p := ⟨A + 1, 1, none⟩) lb).trans f4; have la := Nat.lt_of_lt_of_le la hz; have lb := Nat.lt_of_lt_of_le lb hz; have HB9 := hid (HB8.out.trans (hb.mono HB8.out.size)); have HB8 := HB9; clear hb hz) | fail)
      all_goals
        have HU := hid (sp_set (x := min a1 zx) (y := max a2 zx) (z := min a3 zy) (u := max a4 zy) (⟨c1, c2, HJ.out.1.f0 HB8.out, la⟩ : SpAt w' A a1 a2) (⟨c3, c4, HJ.out.2.1.f0 HB8.out, lb⟩ : SpAt w' (A + 1) a3 a4))
        have HV : Hid (SpAt ((((w'.setCell ⟨A, 0, none⟩ (.int .i64 (min a1 zx))).setCell ⟨A, 1, none⟩ (.int .i64 (max a2 zx))).setCell ⟨A + 1, 0, none⟩ (.int .i64 (min a3 zy))).setCell ⟨A + 1, 1, none⟩ (.int .i64 (max a4 zy))) A (loZ zf (l.take (k + 1))) (hiZ zf (l.take (k + 1))) ∧ SpAt ((((w'.setCell ⟨A, 0, none⟩ (.int .i64 (min a1 zx))).setCell ⟨A, 1, none⟩ (.int .i64 (max a2 zx))).setCell ⟨A + 1, 0, none⟩ (.int .i64 (min a3 zy))).setCell ⟨A + 1, 1, none⟩ (.int .i64 (max a4 zy))) (A + 1) (loZ zt (l.take (k + 1))) (hiZ zt (l.take (k + 1))) ∧ (∀ i, i < l.length → ∃ g', some (⟨g, 0, none⟩ : Addr) = some ⟨g', 0, none⟩ ∧ g' < (World.heap ((((w'.setCell ⟨A, 0, none⟩ (.int .i64 (min a1 zx))).setCell ⟨A, 1, none⟩ (.int .i64 (max a2 zx))).setCell ⟨A + 1, 0, none⟩ (.int .i64 (min a3 zy))).setCell ⟨A + 1, 1, none⟩ (.int .i64 (max a4 zy)))).size ∧ A + 1 < g' ∧ World.cell? ((((w'.setCell ⟨A, 0, none⟩ (.int .i64 (min a1 zx))).setCell ⟨A, 1, none⟩ (.int .i64 (max a2 zx))).setCell ⟨A + 1, 0, none⟩ (.int .i64 (min a3 zy))).setCell ⟨A + 1, 1, none⟩ (.int .i64 (max a4 zy))) ⟨g', i, none⟩ = some (.int .i64 ((l.getD i 0 : Nat) : Int))) ∧ Below w.heap.size w ((((w'.setCell ⟨A, 0, none⟩ (.int .i64 (min a1 zx))).setCell ⟨A, 1, none⟩ (.int .i64 (max a2 zx))).setCell ⟨A + 1, 0, none⟩ (.int .i64 (min a3 zy))).setCell ⟨A + 1, 1, none⟩ (.int .i64 (max a4 zy)))) := hid ⟨by rw [HT1.out, HT2.out]; exact HU.out.1, by rw [HT3.out, HT4.out]; exact HU.out.2.1, fun i hi => by
          obtain ⟨g1, e1, e2, e3, e4⟩ := HJ.out.2.2.1 i hi
          exact ⟨g1, e1, by rw [HU.out.2.2.2]; exact Nat.lt_of_lt_of_le e2 HB8.out.size, e3, by rw [HU.out.2.2.1 g1 i e3, HB8.out.cell (p := ⟨g1, i, none⟩) e2]; exact e4⟩,
          ((((HJ.out.2.2.2.trans (HB8.out.mono HJ.out.2.2.2.size)).setCell (p := ⟨A, 0, none⟩) hA _).setCell (p := ⟨A, 1, none⟩) hA _).setCell (p := ⟨A + 1, 0, none⟩) (Nat.le_succ_of_le hA) _).setCell (p := ⟨A + 1, 1, none⟩) (Nat.le_succ_of_le hA) _⟩
        clear c1 c2 c3 c4 f1 f2 f3 f4 HU HB8 HB9 HJ
        go_wp2
        go_roundw
        case rel => exact ⟨k + 1, by omega, by go_num, HV⟩
        case measure => simp [intOf]; omega
    · obtain rfl : k = l.length := by omega
      have hdi : decide ((l.length : Int) < (l.length : Int)) = false := by simp
      have HE := HI2
      rw [List.take_length] at HE
      go_wp2_with fail
      (with_reducible refine (rwhere_hull _ _ _ _ A (A + 1) _ HE.out.1.c0 HE.out.1.c1 HE.out.2.1.c0 HE.out.2.1.c1 (HT.out.below HE.out.2.2.2)).mono ?_)
      rintro e w' ⟨rfl, hb⟩
      rw [← HN.out]
      go_wp2
      go_ret
      exact ⟨rfl, HE.out.2.2.2.trans (hb.mono HE.out.2.2.2.size)⟩
end Go.Proofs.YtlmmjdaipedjjaaDoor.C
