/- Chapter 4: the relation of orders of ends, and its exact law. -/
import Derived.Test.YtnhpjjbblegnaaaDoorEosS
import Derived.Test.YtnhpjjbblegnaaaDoorEndsX
namespace Go.Proofs.YtnhpjjbblegnaaaDoor.C
open Go.RowKit
set_option linter.unusedVariables false
set_option linter.unusedSimpArgs false
/-- A slice of integers for reading, in blocks that lie. -/
def SlB (w : World) (v : Value) (n : Nat) (f : Nat → Int) : Prop :=
  (n = 0 ∧ ∃ a c, v = .slice a 0 c) ∨ ∃ b o cap, v = .slice (some ⟨b, o, none⟩) n cap ∧ n ≤ cap ∧ b < w.heap.size ∧ ∀ i, i < n → w.cell? ⟨b, o + i, none⟩ = some (.int .i64 (f i))
theorem SlB.below {w w' : World} {v : Value} {n : Nat} {f : Nat → Int} (h : SlB w v n f) (hb : Below w.heap.size w w') : SlB w' v n f := by
  rcases h with h | ⟨b, o, cap, h1, h2, h3, h4⟩
  · exact .inl h
  · exact .inr ⟨b, o, cap, h1, h2, Nat.lt_of_lt_of_le h3 hb.size, fun i hi => (hb.cell (p := ⟨b, o + i, none⟩) h3).trans (h4 i hi)⟩
theorem SlB.of_new {w w' : World} {v : Value} {n : Nat} {f : Nat → Int} (h : NewSl w n f v w') : SlB w' v n f := by
  rcases h.2 with h | ⟨b, cap, h1, h2, h3, h4, h5, h6⟩
  · exact .inl h
  · exact .inr ⟨b, 0, cap, h1, h2, h4, fun i hi => by rw [Nat.zero_add]; exact h5 i hi⟩
theorem SlB.lens {w : World} {v : Value} {n : Nat} {f : Nat → Int} (h : SlB w v n f) : ∃ a cap, v = .slice a n cap ∧ n ≤ cap ∧ ∀ i, i < n → ∃ b o, a = some ⟨b, o, none⟩ ∧ b < w.heap.size ∧ w.cell? ⟨b, o + i, none⟩ = some (.int .i64 (f i)) := by
  rcases h with ⟨rfl, a, c, rfl⟩ | ⟨b, o, cap, rfl, h2, h3, h4⟩
  · exact ⟨a, c, rfl, Nat.zero_le _, fun i hi => by omega⟩
  · exact ⟨_, cap, rfl, h2, fun i hi => ⟨b, o, rfl, h3, h4 i hi⟩⟩
set_option maxHeartbeats 1000000 in
theorem sRoo_bad (v : Value) (n : Nat) (f : Nat → Int) (hn : n ≤ 4611686018427387904) (hbad : n ≠ 4 ∨ ∃ i, i < n ∧ pv (f i) = false) (w : World) (h : SlB w v n f) :
    Calls Tryd.prog 32 #[v] w fun e w' => e = .returned (.tuple #[.int .i64 0, .bool false]) ∧ w = w' := by
  obtain ⟨a, cap, rfl, hcap, h3⟩ := h.lens
  have H3 := hid h3
  have HB := hid hbad
  clear h3 hbad h
  have HS := AllLt.start w; go_enter Tryd.func32, Tryd.ntmps32
  go_wp2
  go_loop [4] (fun v => ∃ k : Nat, k ≤ n ∧ v = .int .i64 k ∧ Hid (∀ j, j < k → pv (f j) = true)) (fun v => n - (intOf v).toNat)
  case atStart => exact ⟨0, by omega, rfl, hid (fun j hj => by omega)⟩
  case round =>
    obtain ⟨k, hk, rfl, HF⟩ := hrel
    clear HS
    by_cases hlt : k < n
    · have hdi : decide ((k : Int) < (n : Int)) = true := by simp; omega
      have hdj : decide (k < n) = true := by simp; omega
      obtain ⟨b, o, rfl, hb, hc⟩ := H3.out k hlt
      have HS2 : Hid (pv (f k) = true → ∀ j, j < k + 1 → pv (f j) = true) := hid (fun h j hj => by
        by_cases ej : j = k
        · rw [ej]; exact h
        · exact HF.out j (by omega))
      generalize f k = y at *
      clear HF
      cases q : pv y
      · have HQ := hid q
        clear q HS2
        go_wp2_with (first | (go_at_call 55; (with_reducible refine (sPointValid_any y _).mono ?_); rintro e w' ⟨rfl, rfl⟩; rw [HQ.out]))
        go_ret2
        exact ⟨rfl, rfl⟩
      · have HQ := hid q
        have HF2 := hid (HS2.out q)
        clear q HS2
        go_wp2_with (first | (go_at_call 55; (with_reducible refine (sPointValid_any y _).mono ?_); rintro e w' ⟨rfl, rfl⟩; rw [HQ.out]))
        go_round
        case rel => exact ⟨k + 1, by omega, by go_num, HF2⟩
        case measure => simp [intOf]; omega
    · obtain rfl : k = n := by omega
      have hdi : decide ((k : Int) < (k : Int)) = false := by simp
      have hne : ((k : Int) != 4) = true := by
        rw [bne_iff_ne]
        rcases HB.out with h | ⟨i, hi, h⟩
        · omega
        · have := HF.out i hi
          rw [h] at this
          cases this
      clear HF
      go_wp2
      go_ret2
      exact ⟨rfl, rfl⟩
set_option maxHeartbeats 1000000 in
theorem sRoo_good (b cap : Nat) (hcap : 4 ≤ cap) (x0 x1 x2 x3 : Int) (h0 : pv x0 = true) (h1 : pv x1 = true) (h2 : pv x2 = true) (h3 : pv x3 = true) (w : World) (hL : L4 w b 0 x0 x1 x2 x3) :
    Calls Tryd.prog 32 #[.slice (some ⟨b, 0, none⟩) 4 cap] w fun e w' => e = .returned (.tuple #[.int .i64 ((rooN x0 x1 x2 x3 : Nat) : Int), .bool true]) ∧ Below w.heap.size w w' := by
  have c0 := hL.c0
  have c1 := hL.c1
  have c2 := hL.c2
  have c3 := hL.c3
  have P0 := hid h0
  have P1 := hid h1
  have P2 := hid h2
  have P3 := hid h3
  have HS := AllLt.start w; go_enter Tryd.func32, Tryd.ntmps32
  go_wp2
  refine wp_loop_rounds 5 ?_
  iterate 5
    rw [rounds_succ]
    go_wp2_with (first | (go_at_call 55; (with_reducible refine (sPointValid_any _ _).mono ?_); rintro e w' ⟨rfl, rfl⟩; (first | rw [P0.out] | rw [P1.out] | rw [P2.out] | rw [P3.out])) | (go_at_call 56; (with_reducible refine (l4Rel_any b cap hcap x0 x1 x2 x3 h0 h1 h2 h3 _ hL).mono ?_); rintro e w' ⟨rfl, hb⟩))
  go_ret2
  exact ⟨rfl, hb⟩
theorem F4.zero (w : World) (t : TypeId) : F4 (w.alloc (.cells #[.int .i64 0, .int .i64 0, .int .i64 0, .int .i64 0] t)) w.heap.size (fun _ => 0) :=
  ⟨four (by simp [go_sem]) (by simp [go_sem]) (by simp [go_sem]) (by simp [go_sem]), fun i => by simp [go_sem], by rw [World.size_alloc]; omega⟩
set_option maxHeartbeats 2000000 in
theorem endSetsOf_off (v : Value) (n : Nat) (f : Nat → Int) (hn : n ≤ 4611686018427387904) (h4 : n ≠ 4) (w : World) (h : SlB w v n f) :
    Calls Tryd.prog 57 #[v] w fun e w' => e = .returned (.tuple #[.agg #[.int .i64 0, .int .i64 0, .int .i64 0, .int .i64 0], .bool false]) ∧ Below w.heap.size w w' := by
  obtain ⟨a, cap, rfl, hcap, h3⟩ := h.lens
  have hne : ((n : Int) != 4) = true := by rw [bne_iff_ne]; omega
  clear h3 h
  have HS := AllLt.start w; go_enter Tryd.func57, Tryd.ntmps57
  go_wp2
  refine bodyPost_ret (by simp [results, Tryd.results57, go_sem, *]; try rfl) rfl ?_
  exact ⟨rfl, by (repeat' (first | (with_reducible exact Below.refl _ _) | (with_reducible refine Below.setCell ?_ ?_ _) | (with_reducible refine below_drewN' ?_ _) | (with_reducible refine below_drew' ?_) | (with_reducible refine Below.alloc ?_ ?_ _) | (with_reducible assumption) | go_size))⟩
set_option maxHeartbeats 4000000 in
theorem endSetsOf_4 (b o cap : Nat) (hcap : 4 ≤ cap) (f : Nat → Int) (w : World) (hb : b < w.heap.size) (hc : ∀ i, i < 4 → w.cell? ⟨b, o + i, none⟩ = some (.int .i64 (f i))) :
    Calls Tryd.prog 57 #[.slice (some ⟨b, o, none⟩) 4 cap] w fun e w' => ((e = .returned (.tuple #[.agg #[.int .i64 0, .int .i64 0, .int .i64 0, .int .i64 0], .bool false]) ∧ ∃ i, i < 4 ∧ pv (f i) = false) ∨ (e = .returned (.tuple #[.agg #[.int .i64 (f 0), .int .i64 (f 1), .int .i64 (f 2), .int .i64 (f 3)], .bool true]) ∧ ∀ i, i < 4 → pv (f i) = true)) ∧ Below w.heap.size w w' := by
  have HC := hid hc
  clear hc
  have hR := F4.zero w 51
  have hS := F4.zero (w.alloc (.cells #[.int .i64 0, .int .i64 0, .int .i64 0, .int .i64 0] 51)) 51
  have hR2 := hid (hR.below ((Below.refl _ _).alloc (Nat.le_refl _) (.cells #[.int .i64 0, .int .i64 0, .int .i64 0, .int .i64 0] 51)))
  rw [World.size_alloc] at hS
  have hS2 := hid hS
  have HB0 : Hid (Below w.heap.size w ((w.alloc (.cells #[.int .i64 0, .int .i64 0, .int .i64 0, .int .i64 0] 51)).alloc (.cells #[.int .i64 0, .int .i64 0, .int .i64 0, .int .i64 0] 51))) := hid (by (repeat' (first | (with_reducible exact Below.refl _ _) | (with_reducible refine Below.setCell ?_ ?_ _) | (with_reducible refine below_drewN' ?_ _) | (with_reducible refine below_drew' ?_) | (with_reducible refine Below.alloc ?_ ?_ _) | (with_reducible assumption) | go_size)))
  clear hR hS
  have HS := AllLt.start w; go_enter Tryd.func57, Tryd.ntmps57
  go_wp2
  go_loopw [13] (fun i wr => ∃ k : Nat, k ≤ 4 ∧ i = .int .i64 k ∧ Hid (F4 wr (w.heap.size + 1) (fun i => if i < k then f i else 0) ∧ F4 wr w.heap.size (fun _ => 0) ∧ Below w.heap.size w wr ∧ ∀ j, j < k → pv (f j) = true)) (fun i _ => 4 - (intOf i).toNat)
  case atStart => exact ⟨0, by omega, rfl, hid ⟨hS2.out.congr fun i _ => by simp, hR2.out, HB0.out, fun j hj => by omega⟩⟩
  case round =>
    obtain ⟨k, hk, rfl, HK⟩ := hrel
    clear HS hR2 hS2 HB0
    obtain ⟨wi, rfl⟩ : ∃ wi : World, wi = wr := ⟨_, rfl⟩
    have d0 := HK.out.2.1.c 0 (by omega)
    have d1 := HK.out.2.1.c 1 (by omega)
    have d2 := HK.out.2.1.c 2 (by omega)
    have d3 := HK.out.2.1.c 3 (by omega)
    have g0 := HK.out.2.1.f
    by_cases k4 : k < 4
    · have hdp : decide ((k : Int) < 4) = true := by simp; omega
      have hdq : decide (k < 4) = true := by simp; omega
      have cx : wi.cell? ⟨b, o + k, none⟩ = some (.int .i64 (f k)) := by rw [HK.out.2.2.1.cell (p := ⟨b, o + k, none⟩) hb]; exact HC.out k k4
      have fS := HK.out.1.f k
      have cS := HK.out.1.c k k4
      have lS := HK.out.1.lt
      have p0 : (0 : Int) ≤ (k : Int) := Int.natCast_nonneg _
      have p5 : (k : Int) < 4 := by omega
      cases q : pv (f k)
      · have HQ := hid q
        generalize hy : f k = y at *
        go_wp2_with (first | (go_at_call 83; (with_reducible refine (iPointValid_any y _).mono ?_); rintro e w' ⟨rfl, rfl⟩; rw [HQ.out]))
        refine bodyPost_ret (by simp [results, Tryd.results57, go_sem, *]; try rfl) rfl ?_
        exact ⟨.inl ⟨rfl, k, k4, by rw [hy]; exact HQ.out⟩, by have hbe := HK.out.2.2.1; (repeat' (first | (with_reducible exact Below.refl _ _) | (with_reducible refine Below.setCell ?_ ?_ _) | (with_reducible refine below_drewN' ?_ _) | (with_reducible refine below_drew' ?_) | (with_reducible refine Below.alloc ?_ ?_ _) | (with_reducible assumption) | go_size))⟩
      · have HQ := hid q
        have HK2 : Hid (F4 (wi.setCell ⟨w.heap.size + 1, k, none⟩ (.int .i64 (f k))) (w.heap.size + 1) (fun i => if i < k + 1 then f i else 0) ∧ F4 (wi.setCell ⟨w.heap.size + 1, k, none⟩ (.int .i64 (f k))) w.heap.size (fun _ => 0) ∧ Below w.heap.size w (wi.setCell ⟨w.heap.size + 1, k, none⟩ (.int .i64 (f k))) ∧ ∀ j, j < k + 1 → pv (f j) = true) := hid
          ⟨(HK.out.1.set k4 (f k)).congr fun i hi => by
            by_cases e : i = k
            · subst e; simp
            · rw [if_neg e]
              by_cases e2 : i < k
              · rw [if_pos e2, if_pos (by omega)]
              · rw [if_neg e2, if_neg (by omega)],
           ⟨fun i hi => by rw [World.cell?_of_block (w := wi) (Below.heap_setCell wi ⟨w.heap.size + 1, k, none⟩ _ w.heap.size (by simp))]; exact HK.out.2.1.c i hi, fun i => by simp [go_sem, HK.out.2.1.f i], by rw [World.size_setCell]; exact HK.out.2.1.lt⟩,
           HK.out.2.2.1.setCell (p := ⟨w.heap.size + 1, k, none⟩) (by simp) _, fun j hj => by
            by_cases ej : j = k
            · rw [ej]; exact q
            · exact HK.out.2.2.2 j (by omega)⟩
        clear HK q d0 d1 d2 d3 g0
        generalize hy : f k = y at *
        go_wp2_with (first | (go_at_call 83; (with_reducible refine (iPointValid_any y _).mono ?_); rintro e w' ⟨rfl, rfl⟩; rw [HQ.out]))
        go_roundw
        case rel => exact ⟨k + 1, by omega, by go_num, HK2⟩
        case measure => simp [intOf]; omega
    · obtain rfl : k = 4 := by omega
      have hdp : decide (((4 : Nat) : Int) < 4) = false := by simp
      have c0 : wi.cell? ⟨w.heap.size + 1, 0, none⟩ = some (.int .i64 (f 0)) := HK.out.1.c 0 (by omega)
      have c1 : wi.cell? ⟨w.heap.size + 1, 1, none⟩ = some (.int .i64 (f 1)) := HK.out.1.c 1 (by omega)
      have c2 : wi.cell? ⟨w.heap.size + 1, 2, none⟩ = some (.int .i64 (f 2)) := HK.out.1.c 2 (by omega)
      have c3 : wi.cell? ⟨w.heap.size + 1, 3, none⟩ = some (.int .i64 (f 3)) := HK.out.1.c 3 (by omega)
      go_wp2
      refine bodyPost_ret (by simp [results, Tryd.results57, go_sem, *]; try rfl) rfl ?_
      exact ⟨.inr ⟨rfl, HK.out.2.2.2⟩, by have hbe := HK.out.2.2.1; (repeat' (first | (with_reducible exact Below.refl _ _) | (with_reducible refine Below.setCell ?_ ?_ _) | (with_reducible refine below_drewN' ?_ _) | (with_reducible refine below_drew' ?_) | (with_reducible refine Below.alloc ?_ ?_ _) | (with_reducible assumption) | go_size))⟩
/-- What orders tell: of four sets a relation, else nothing. -/
def RoB (n : Nat) (f : Nat → Int) : Prop := n = 4 ∧ ∀ i, i < 4 → pv (f i) = true
theorem iRoo_bad (v : Value) (n : Nat) (f : Nat → Int) (hn : n ≤ 4611686018427387904) (hbad : n ≠ 4 ∨ ∃ i, i < n ∧ pv (f i) = false) (w : World) (h : SlB w v n f) :
    Calls Tryd.prog 34 #[v] w fun e w' => e = .returned (.tuple #[.int .i64 0, .bool false]) ∧ Below w.heap.size w w' := by
  have HE : ∀ w1 : World, w1 = w → Calls Tryd.prog 57 #[v] w1 fun e w' => e = .returned (.tuple #[.agg #[.int .i64 0, .int .i64 0, .int .i64 0, .int .i64 0], .bool false]) ∧ Below w1.heap.size w1 w' := fun w1 e => by
    subst e
    by_cases h4 : n = 4
    · subst h4
      rcases h with ⟨h, _⟩ | ⟨b, o, cap, rfl, h2, h3, h5⟩
      · omega
      · refine (endSetsOf_4 b o cap h2 f w1 h3 h5).mono ?_
        rintro e w' ⟨⟨rfl, _⟩ | ⟨rfl, hall⟩, hb⟩
        · exact ⟨rfl, hb⟩
        · exfalso
          rcases hbad with hx | ⟨i, hi, hx⟩
          · exact hx rfl
          · rw [hall i hi] at hx; cases hx
    · exact endSetsOf_off v n f hn h4 w1 h
  obtain ⟨a, cap, rfl, _⟩ := h.lens
  have HE2 := hid (HE w rfl)
  clear HE h
  have HS := AllLt.start w; go_enter Tryd.func34, Tryd.ntmps34
  go_wp2_with fail
  refine HE2.out.mono ?_
  rintro e w1 ⟨rfl, hb⟩
  go_wp2
  go_ret2
  exact ⟨rfl, hb.alloc hb.size _⟩
set_option maxHeartbeats 1000000 in
theorem iRoo_good (b o cap : Nat) (hcap : 4 ≤ cap) (f : Nat → Int) (hv : ∀ i, i < 4 → pv (f i) = true) (w : World) (hb : b < w.heap.size) (hc : ∀ i, i < 4 → w.cell? ⟨b, o + i, none⟩ = some (.int .i64 (f i))) (hT : TB w) :
    Calls Tryd.prog 34 #[.slice (some ⟨b, o, none⟩) 4 cap] w fun e w' => e = .returned (.tuple #[.int .i64 ((rooN (f 0) (f 1) (f 2) (f 3) : Nat) : Int), .bool true]) ∧ Below w.heap.size w w' := by
  have HT := hid hT
  clear hT
  have HE := hid (endSetsOf_4 b o cap hcap f w hb hc)
  have HV := hid hv
  have HA := hid (fun w hT => where_allow (f 0) (f 1) (f 2) (f 3) (hv 0 (by omega)) (hv 1 (by omega)) (hv 2 (by omega)) (hv 3 (by omega)) w hT)
  have HN : Hid (rooN (f 0) (f 1) (f 2) (f 3) = whN (alw (f 0) (f 1) (f 2) (f 3))) := hid rfl
  clear hc hv
  generalize f 0 = x0 at *
  generalize f 1 = x1 at *
  generalize f 2 = x2 at *
  generalize f 3 = x3 at *
  have HS := AllLt.start w; go_enter Tryd.func34, Tryd.ntmps34
  go_wp2_with fail
  refine HE.out.mono ?_
  rintro e w1 ⟨⟨rfl, i, hi, hx⟩ | ⟨rfl, _⟩, hb1⟩
  · exfalso
    rw [HV.out i hi] at hx
    cases hx
  have HB1 := hid hb1
  clear hb1 HE
  have HW := hid (HB1.out.alloc HB1.out.size (.cells #[.int .i64 x0, .int .i64 x1, .int .i64 x2, .int .i64 x3] 51))
  go_wp2_with fail
  refine (HA.out _ (HT.out.below HW.out)).mono ?_
  rintro e w2 ⟨rfl, hb2⟩
  rw [← HN.out]
  go_wp2
  go_ret2
  exact ⟨rfl, HW.out.trans (hb2.mono HW.out.size)⟩
theorem intInfo5 : (Tryd.prog.info? 3).map (fun i => (i.zero, i.size, i.bytes)) = some (some (.int .i64 0), 1, 8) := by kernel_rfl
/-- A copy under way: block b holds n numbers, the first i are f's. -/
structure Cop (w : World) (b n i : Nat) (f : Nat → Int) : Prop where
  c : ∀ j, j < i → w.cell? ⟨b, j, none⟩ = some (.int .i64 (f j))
  s : ∀ j, j < n → ∃ u, w.cell? ⟨b, j, none⟩ = some u
  f : ∀ j, w.frozen? ⟨b, j, none⟩ = false
  lt : b < w.heap.size
theorem Cop.set {w : World} {b n i : Nat} {f : Nat → Int} (h : Cop w b n i f) (hi : i < n) : Cop (w.setCell ⟨b, i, none⟩ (.int .i64 (f i))) b n (i + 1) f := by
  obtain ⟨u, hu⟩ := h.s i hi
  refine ⟨fun j hj => ?_, fun j hj => ?_, fun j => by simp [go_sem, h.f j], by rw [World.size_setCell]; exact h.lt⟩
  · by_cases e : j = i
    · subst e
      simp [go_sem, hu]
    · have e2 : ¬ i = j := fun h => e h.symm
      simp [go_sem, e, e2, h.c j (by omega)]
  · by_cases e : j = i
    · subst e
      exact ⟨.int .i64 (f j), by simp [go_sem, hu]⟩
    · have e2 : ¬ i = j := fun h => e h.symm
      obtain ⟨u', hu'⟩ := h.s j hj
      exact ⟨u', by simp [go_sem, e, e2, hu']⟩
set_option maxHeartbeats 1000000 in
theorem toIntS_any (a : Option Addr) (cap n : Nat) (f : Nat → Int) (hn : n ≤ 1048576) (w : World) (hcap : n ≤ cap) (h3 : ∀ i, i < n → ∃ x : Addr, a = some x ∧ x.block < w.heap.size ∧ w.cell? (x.add i) = some (.int .i64 (f i))) :
    Calls Tryd.prog 33 #[.slice a n cap] w (NewS w n f) := by
  have H3 := hid h3
  clear h3
  obtain ⟨i0, hi0, hz0, hz1, hz2⟩ := info_parts intInfo5
  have HS := AllLt.start w; go_enter Tryd.func33, Tryd.ntmps33
  go_wp2_with (at_make; refine wpList_make_full _ rfl _ _ 28 rfl w.heap.size 3 i0 (.int .i64 0) 1 Tryd.underlying28 hi0 hz0 hz1 .i64 .i64 _ _ n rfl rfl rfl rfl (by rw [hz2]; omega) (by unfold maxLen; omega) (Nat.le_refl _) ?_; intro w1 hown hgrow)
  have HC0 : Hid (Cop w1 w.heap.size n 0 f ∧ Below w.heap.size w w1) := hid (by
    refine ⟨?_, (Below.refl _ _).grown hgrow (Nat.le_refl _) (fun k hk => by cases hk)⟩
    rcases hown.2 with ⟨h, _⟩ | ⟨g, cap, cur, h1, h2, h3, h4, h5, h6, h7⟩
    · cases h
    · simp only [Value.slice.injEq, Option.some.injEq, Addr.mk.injEq, and_true] at h1
      obtain ⟨rfl, _, rfl⟩ := h1
      refine ⟨fun j hj => by omega, fun j hj => ⟨cur[j]'(by omega), by simp [World.cell?, h3, show j < cur.size by omega]⟩, fun j => by simp [World.frozen?, h3], (Array.getElem?_eq_some_iff.1 h3).1⟩)
  clear hown hgrow
  go_loopw [4] (fun i wr => ∃ k : Nat, k ≤ n ∧ i = .int .i64 k ∧ Hid (Cop wr w.heap.size n k f ∧ Below w.heap.size w wr)) (fun i _ => n - (intOf i).toNat)
  case atStart => exact ⟨0, by omega, rfl, HC0⟩
  case round =>
    obtain ⟨k, hk, rfl, HK⟩ := hrel
    clear HS HC0
    obtain ⟨wi, rfl⟩ : ∃ wi : World, wi = wr := ⟨_, rfl⟩
    by_cases hlt : k < n
    · have hdi : decide ((k : Int) < (n : Int)) = true := by simp; omega
      have hdj : decide (k < n) = true := by simp; omega
      obtain ⟨x, rfl, hb, hc⟩ := H3.out k hlt
      have cx : wi.cell? (x.add k) = some (.int .i64 (f k)) := by rw [HK.out.2.cell (p := x.add k) (by rw [show (x.add k).block = x.block from by unfold Addr.add; split <;> rfl]; exact hb)]; exact hc
      obtain ⟨u, cu⟩ := HK.out.1.s k hlt
      have fu := HK.out.1.f k
      have lu := HK.out.1.lt
      have HK2 : Hid (Cop (wi.setCell ⟨w.heap.size, k, none⟩ (.int .i64 (f k))) w.heap.size n (k + 1) f ∧ Below w.heap.size w (wi.setCell ⟨w.heap.size, k, none⟩ (.int .i64 (f k)))) := hid ⟨HK.out.1.set hlt, HK.out.2.setCell (p := ⟨w.heap.size, k, none⟩) (Nat.le_refl _) _⟩
      clear HK hc
      generalize f k = y at *
      go_wp2
      go_roundw
      case rel => exact ⟨k + 1, by omega, by go_num, HK2⟩
      case measure => simp [intOf]; omega
    · obtain rfl : k = n := by omega
      have hdi : decide ((k : Int) < (k : Int)) = false := by simp
      go_wp2
      go_ret
      exact ⟨_, rfl, HK.out.2, .inr ⟨w.heap.size, k, rfl, Nat.le_refl _, Nat.le_refl _, HK.out.1.lt, HK.out.1.c, fun j _ => HK.out.1.f j⟩⟩
theorem IsRow.at {w : World} {a : Option Addr} {len cap : Nat} {zs : List Int} (h : IsRow .i64 w a len cap zs) : len ≤ cap ∧ ∀ i, i < len → ∃ x : Addr, a = some x ∧ x.block < w.heap.size ∧ w.cell? (x.add i) = some (.int .i64 (zs.getD i 0)) := by
  have hl := h.lt
  rcases h with ⟨rfl, rfl, rfl, rfl⟩ | ⟨x, rfl, h1, h2, h3, h4, h5⟩
  · exact ⟨Nat.le_refl _, fun i hi => by omega⟩
  · exact ⟨h1, fun i hi => ⟨x, rfl, hl x rfl (by omega), h4 i (by omega)⟩⟩
theorem NewSl.slB {w w' : World} {v : Value} {n : Nat} {f : Nat → Int} (h : NewSl w n f v w') : Below w.heap.size w w' ∧ SlB w' v n f := ⟨h.1, SlB.of_new h⟩
theorem roo_both (n : Nat) (f : Nat → Int) (hn : n ≤ 1048576) : ∃ (r : Int) (ok : Bool), (∀ (v : Value) (w0 w : World), NewSl w0 n f v w → Calls Tryd.prog 32 #[v] w fun e w' => e = .returned (.tuple #[.int .i64 r, .bool ok]) ∧ Below w.heap.size w w') ∧ ∀ (v : Value) (w0 w : World), NewSl w0 n f v w → TB w → Calls Tryd.prog 34 #[v] w fun e w' => e = .returned (.tuple #[.int .i64 r, .bool ok]) ∧ Below w.heap.size w w' := by
  by_cases hg : n = 4 ∧ ∀ i, i < 4 → pv (f i) = true
  · obtain ⟨rfl, hv⟩ := hg
    refine ⟨((rooN (f 0) (f 1) (f 2) (f 3) : Nat) : Int), true, fun v w0 w h => ?_, fun v w0 w h hT => ?_⟩
    · rcases h.2 with ⟨h, _⟩ | ⟨b, cap, rfl, h2, h3, h4, h5, h6⟩
      · omega
      · exact sRoo_good b cap h2 _ _ _ _ (hv 0 (by omega)) (hv 1 (by omega)) (hv 2 (by omega)) (hv 3 (by omega)) w ⟨h5 0 (by omega), h5 1 (by omega), h5 2 (by omega), h5 3 (by omega), h4⟩
    · rcases h.2 with ⟨h, _⟩ | ⟨b, cap, rfl, h2, h3, h4, h5, h6⟩
      · omega
      · exact iRoo_good b 0 cap h2 f hv w h4 (fun i hi => by rw [Nat.zero_add]; exact h5 i hi) hT
  · have hbad : n ≠ 4 ∨ ∃ i, i < n ∧ pv (f i) = false := by
      by_cases h4 : n = 4
      · right
        subst h4
        obtain ⟨i, hi⟩ := Classical.not_forall.1 (fun h => hg ⟨rfl, h⟩)
        rw [Classical.not_imp] at hi
        exact ⟨i, hi.1, by simpa using hi.2⟩
      · exact .inl h4
    refine ⟨0, false, fun v w0 w h => (sRoo_bad v n f (by omega) hbad w h.slB.2).mono fun e w' h => ?_, fun v w0 w h hT => iRoo_bad v n f (by omega) hbad w h.slB.2⟩
    obtain ⟨h1, rfl⟩ := h
    exact ⟨h1, Below.refl _ _⟩
set_option maxHeartbeats 2000000 in
theorem walk_FnExactRelOfOrders (a0 : Option Addr) (len0 cap0 : Nat) (z0 : List Int) (w : World) (w0 : IsRow .i64 w a0 len0 cap0 z0) (hB : TB w) :
    Calls Tryd.prog 11 #[.slice a0 len0 cap0] w fun e w' => e = .returned (.bool true) ∧ Below w.heap.size w w' := by
  have HT0 := hid hB
  clear hB
  by_cases hl : len0 ≤ 1048576
  · have hd : decide ((1048576 : Int) < (len0 : Int)) = false := by simp; omega
    obtain ⟨r, ok, hS, hI⟩ := roo_both len0 (fun i => z0.getD i 0) hl
    have HA : Hid (∀ w' : World, Below w.heap.size w w' → Calls Tryd.prog 33 #[.slice a0 len0 cap0] w' (NewS w' len0 (fun i => z0.getD i 0))) := hid fun w' hb => by
      obtain ⟨h1, h2⟩ := (w0.below hb).at
      exact toIntS_any a0 cap0 len0 _ hl w' h1 h2
    have HS1 := hid hS
    have HI := hid hI
    clear hS hI w0
    generalize (fun i => z0.getD i 0) = f at *
    have HS := AllLt.start w; go_enter Tryd.func11, Tryd.ntmps11
    go_wp2_with fail
    refine (HA.out _ (Below.refl _ _)).mono ?_
    rintro e w1 ⟨v1, rfl, h1⟩
    have HB1 := hid h1.1
    have HX := hid (HS1.out v1 w w1 h1)
    obtain ⟨a1, c1, rfl, _⟩ := h1.slB.2.lens
    clear h1
    go_wp2_with fail
    refine HX.out.mono ?_
    rintro e w2 ⟨rfl, hb2⟩
    have HB2 := hid (HB1.out.trans (hb2.mono HB1.out.size))
    clear hb2 HX HB1
    go_wp2_with fail
    refine (HA.out _ HB2.out).mono ?_
    rintro e w3 ⟨v3, rfl, h3⟩
    have HB3 := hid (HB2.out.trans (h3.1.mono HB2.out.size))
    have HY := hid (HI.out v3 w2 w3 h3 (HT0.out.below HB3.out))
    have HC3 := hid h3.cases.2
    have HL3 := hid h3.slB.2.lens
    clear h3 HB2
    obtain ⟨a3, c3, rfl, _⟩ := HL3.out
    go_wp2_with fail
    refine HY.out.mono ?_
    rintro e w4 ⟨rfl, hb4⟩
    have HB4 := hid (HB3.out.trans (hb4.mono HB3.out.size))
    have H34 := hid hb4
    clear hb4 HY HB3
    go_wp2_with fail
    refine (HA.out _ HB4.out).mono ?_
    rintro e w5 ⟨v5, rfl, h5⟩
    have HB5 := hid (HB4.out.trans (h5.1.mono HB4.out.size))
    have HC5 := hid h5.cases
    clear h5
    have hfin : Sl w5 (.slice a3 len0 c3) len0 f ∧ Sl w5 v5 len0 f := by
      constructor
      · rcases HC3.out with ⟨hz, _, _, h⟩ | ⟨hp, b, cap, h1, h2, h3, h4⟩
        · exact .inl ⟨hz, _, _, by rw [hz]⟩
        · rw [h1]
          exact ((h3.below H34.out).below (HC5.out.1)).sl
      · rcases HC5.out.2 with ⟨hz, a, c, h⟩ | ⟨hp, b, cap, h1, h2, h3, h4⟩
        · exact .inl ⟨hz, a, c, h⟩
        · rw [h1]; exact h3.sl
    have HF := hid (eqIntS_same _ _ len0 f _ (by omega) hfin.1 hfin.2)
    obtain ⟨a5, c5, rfl⟩ : ∃ a c, v5 = .slice a len0 c := by
      rcases HC5.out.2 with ⟨hz, a, c, h⟩ | ⟨hp, b, cap, h1, _⟩
      · exact ⟨a, c, by rw [hz]; exact h⟩
      · exact ⟨_, _, h1⟩
    clear hfin
    go_wp2_with fail
    refine HF.out.mono ?_
    rintro e _ ⟨rfl, m, rfl⟩
    go_wp2
    go_ret
    exact ⟨rfl, HB5.out.trans (below_drewN _ _ _)⟩
  · have hd : decide ((1048576 : Int) < (len0 : Int)) = true := by simp; omega
    have HS := AllLt.start w; go_enter Tryd.func11, Tryd.ntmps11
    go_wp2
    go_ret
    exact ⟨rfl, Below.refl _ _⟩
end Go.Proofs.YtnhpjjbblegnaaaDoor.C
