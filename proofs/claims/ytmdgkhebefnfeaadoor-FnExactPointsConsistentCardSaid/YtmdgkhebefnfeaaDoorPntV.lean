/- The program's closed network of points, whether one is empty, and its answers. -/
import Derived.Test.YtmdgkhebefnfeaaDoorPntN
namespace Go.Proofs.YtmdgkhebefnfeaaDoor.C
open Go.RowKit
set_option linter.unusedVariables false
set_option linter.unusedSimpArgs false
theorem pq_mem {l : List (Nat × Nat)} {j : Nat} (hj : j < l.length) : l.getD j (0, 0) ∈ l := by
  rw [List.getD_eq_getElem?_getD, List.getElem?_eq_getElem hj]
  exact List.getElem_mem _
def AnyQ (b : Bool) (w : World) (e : Ending) (w' : World) : Prop := ∃ z : Int, (b = true → 0 ≤ z) ∧ (b = false → z = -1) ∧ e = .returned (.int .i64 z) ∧ Below w.heap.size w w'
theorem take_missQ {f : Nat × Nat → Bool} {l : List (Nat × Nat)} {j : Nat} (hj : j < l.length) (h : ∀ x ∈ l.take j, f x = false) (h2 : f (l.getD j (0, 0)) = false) : ∀ x ∈ l.take (j + 1), f x = false := by
  intro x hx
  rw [pq_take hj] at hx
  rcases List.mem_append.1 hx with hx | hx
  · exact h x hx
  · rw [List.mem_singleton.1 hx]; exact h2
theorem any_hitQ {f : Nat × Nat → Bool} {l : List (Nat × Nat)} {j : Nat} (hj : j < l.length) (h : f (l.getD j (0, 0)) = true) : l.any f = true := List.any_eq_true.2 ⟨_, pq_mem hj, h⟩
theorem any_missQ {f : Nat × Nat → Bool} {l : List (Nat × Nat)} (h : ∀ x ∈ l.take l.length, f x = false) : l.any f = false := by
  rw [List.take_length] at h
  rw [List.any_eq_false]
  intro x hx
  rw [h x hx]; simp
set_option maxHeartbeats 2000000 in
set_option maxRecDepth 100000 in
theorem idxQ_any (C : Nat) (hcf : ∀ (args : Array Value) (w : World), (callFunc C args).run Tryd.prog w = .ok (.enter C args) w) (c : Value) (l : List (Nat × Nat)) (f : Nat × Nat → Bool) (v : Value) (w : World) (B : Nat) (hl : l.length ≤ 144) (hE : Pq w B v l)
    (hC : ∀ j, j < l.length → ∀ w1, Below w.heap.size w w1 → Calls Tryd.prog C #[.agg #[.int .i64 ((l.getD j (0, 0)).1 : Int), .int .i64 ((l.getD j (0, 0)).2 : Int)], c] w1 fun e w' => e = .returned (.bool (f (l.getD j (0, 0)))) ∧ Below w1.heap.size w1 w') :
    Calls Tryd.prog 165 #[v, .func (.func C) #[] #[c]] w (AnyQ (l.any f) w) := by
  obtain ⟨a, cap, rfl, hE⟩ := hE
  have HE := hid hE
  have HC := hid hC
  clear hE hC
  have HS := AllLt.start w; go_enter Tryd.func165, Tryd.ntmps165
  go_wp2_with fail
  go_loopw [8] (fun v wr => ∃ j : Nat, j ≤ l.length ∧ v = .int .i64 j ∧ Hid (∀ x ∈ l.take j, f x = false) ∧ Hid (Below w.heap.size w wr)) (fun v _ => l.length - (intOf v).toNat)
  case atStart => exact ⟨0, by omega, rfl, hid (by simp), hid (Below.refl _ _)⟩
  case round =>
    obtain ⟨j, hj, rfl, HF, HB⟩ := hrel
    clear HS
    obtain ⟨wi, rfl⟩ : ∃ wi : World, wi = wr := ⟨_, rfl⟩
    by_cases hjl : j < l.length
    · have hdj : decide ((j : Int) < (l.length : Int)) = true := by simp; omega
      have hdk : decide (j < l.length) = true := by simp; omega
      obtain ⟨g, rfl, _, hg, c0, c1⟩ := HE.out j hjl
      have d0 : wi.cell? ⟨g, j * 2, none⟩ = _ := (HB.out.cell (p := ⟨g, j * 2, none⟩) hg).trans c0
      have d1 : wi.cell? ⟨g, j * 2 + 1, none⟩ = _ := (HB.out.cell (p := ⟨g, j * 2 + 1, none⟩) hg).trans c1
      have HCj := hid (HC.out j hjl wi HB.out)
      clear c0 c1
      cases hf : f (l.getD j (0, 0))
      · have HN := hid (take_missQ hjl HF.out hf)
        generalize l.getD j (0, 0) = p at *
        have HV := hid hf
        clear hf
        go_wp2_with fail
        (with_reducible refine HCj.out.mono ?_)
        rintro e w2 ⟨rfl, hb⟩
        rw [HV.out]
        have HB2 := hid (HB.out.trans (hb.mono HB.out.size))
        clear hb d0 d1
        go_wp2_with fail
        go_roundw
        case rel => exact ⟨j + 1, by omega, by go_num, HN, HB2⟩
        case measure => simp [intOf]; omega
      · have HN := hid (any_hitQ hjl hf)
        generalize l.getD j (0, 0) = p at *
        have HV := hid hf
        clear hf
        go_wp2_with fail
        (with_reducible refine HCj.out.mono ?_)
        rintro e w2 ⟨rfl, hb⟩
        rw [HV.out]
        have HB2 := hid (HB.out.trans (hb.mono HB.out.size))
        clear hb d0 d1
        go_wp2_with fail
        go_ret
        exact ⟨j, fun _ => by omega, fun h => by (rw [HN.out] at h; cases h), rfl, HB2.out⟩
    · obtain rfl : j = l.length := by omega
      have hdj : decide ((l.length : Int) < (l.length : Int)) = false := by simp
      have HN := hid (any_missQ HF.out)
      go_wp2_with fail
      go_ret
      exact ⟨-1, fun h => by (rw [HN.out] at h; cases h), fun _ => rfl, rfl, HB.out⟩
set_option maxRecDepth 100000 in
theorem contQ_any (C : Nat) (hcf : ∀ (args : Array Value) (w : World), (callFunc C args).run Tryd.prog w = .ok (.enter C args) w) (c : Value) (l : List (Nat × Nat)) (f : Nat × Nat → Bool) (v : Value) (w : World) (B : Nat) (hl : l.length ≤ 144) (hE : Pq w B v l)
    (hC : ∀ j, j < l.length → ∀ w1, Below w.heap.size w w1 → Calls Tryd.prog C #[.agg #[.int .i64 ((l.getD j (0, 0)).1 : Int), .int .i64 ((l.getD j (0, 0)).2 : Int)], c] w1 fun e w' => e = .returned (.bool (f (l.getD j (0, 0)))) ∧ Below w1.heap.size w1 w') :
    Calls Tryd.prog 139 #[v, .func (.func C) #[] #[c]] w fun e w' => e = .returned (.bool (l.any f)) ∧ Below w.heap.size w w' := by
  have HI := hid (idxQ_any C hcf c l f v w B hl hE hC)
  clear hE hC
  cases hb : l.any f
  all_goals
    have HV := hid hb
    clear hb
    have HS := AllLt.start w; go_enter Tryd.func139, Tryd.ntmps139
    go_wp2_with fail
    (with_reducible refine HI.out.mono ?_)
    rintro e w2 ⟨z, hz1, hz2, rfl, hb⟩
  · obtain rfl := hz2 HV.out
    have HB := hid hb
    clear hb hz1 hz2
    go_wp2_with fail
    go_ret
    exact ⟨rfl, HB.out⟩
  · have hz := hz1 HV.out
    have hd : decide (0 ≤ z) = true := by simp; omega
    have HB := hid hb
    clear hb hz1 hz2
    go_wp2_with fail
    go_ret
    exact ⟨rfl, HB.out⟩
set_option maxHeartbeats 8000000 in
set_option maxRecDepth 100000 in
theorem closedP_any (g n : Nat) (N : Nat → Nat → Nat) (hN : OkP n N) (w : World) (hP : PN w g n N) (hT : TO w) :
    Calls Tryd.prog 90 #[.agg #[.int .i64 (n : Int), .map (some g)]] w fun e w' => (∃ g' C, e = .returned (.agg #[.int .i64 (n : Int), .map (some g')]) ∧ w.heap.size ≤ g' ∧ IsClo n N C ∧ PN w' g' n C) ∧ Below w.heap.size w w' := by
  have h12 := hN.le
  have HOK := hid hN
  have HGL := hid hP.lt
  have HTL := hid (Tb.lt hT)
  have HLN := hid (pqL_len h12)
  have hmm := @run_makeMap Tryd.prog
  have HBa := hid (((Below.refl w.heap.size w).alloc (Nat.le_refl _) (.cells #[.int .i64 (n : Int), .map (some g)] 65)).alloc (by simp) (.cells #[.int .i64 0, .map none] 65))
  have HP0 := hid hP
  have HT0 := hid hT
  clear hP hT hN
  have HS := AllLt.start w; have hn2 := lt2; have hn3 := lt3; have hn4 := lt4; go_enter Tryd.func90, Tryd.ntmps90
  go_upto_region 2 with fail
  have HS4 := hid (show ((((w.alloc (.cells #[.int .i64 (n : Int), .map (some g)] 65)).alloc (.cells #[.int .i64 0, .map none] 65)).alloc (.map #[] 0)).alloc (.cells #[.int .i64 (n : Int), .map (some (w.heap.size + 1 + 1))] 65)).heap.size = w.heap.size + 1 + 1 + 1 + 1 by simp)
  have HBb := hid (show Below (w.heap.size + 1) (w.alloc (.cells #[.int .i64 (n : Int), .map (some g)] 65)) ((((w.alloc (.cells #[.int .i64 (n : Int), .map (some g)] 65)).alloc (.cells #[.int .i64 0, .map none] 65)).alloc (.map #[] 0)).alloc (.cells #[.int .i64 (n : Int), .map (some (w.heap.size + 1 + 1))] 65)) from (((Below.refl _ _).alloc (by simp) _).alloc (by simp) _).alloc (by first | (simp; done) | (simp; omega)) _)
  have HA4 := hid ((PB.made w n g).at HBb.out (Nat.lt_succ_self _))
  have HZ4 := hid (show Pz ((((w.alloc (.cells #[.int .i64 (n : Int), .map (some g)] 65)).alloc (.cells #[.int .i64 0, .map none] 65)).alloc (.map #[] 0)).alloc (.cells #[.int .i64 (n : Int), .map (some (w.heap.size + 1 + 1))] 65)) (w.heap.size + 1) by
    have h := Pz.made (w.alloc (.cells #[.int .i64 (n : Int), .map (some g)] 65))
    rw [World.size_alloc] at h
    exact (Below.heap_alloc _ _ _ (by first | (simp; done) | (simp; omega))).trans ((Below.heap_alloc _ _ _ (by simp)).trans h))
  have HM4 := hid (show FM ((((w.alloc (.cells #[.int .i64 (n : Int), .map (some g)] 65)).alloc (.cells #[.int .i64 0, .map none] 65)).alloc (.map #[] 0)).alloc (.cells #[.int .i64 (n : Int), .map (some (w.heap.size + 1 + 1))] 65)) (w.heap.size + 1 + 1) fun _ => none by
    have h := FM.made ((w.alloc (.cells #[.int .i64 (n : Int), .map (some g)] 65)).alloc (.cells #[.int .i64 0, .map none] 65))
    rw [World.size_alloc, World.size_alloc] at h
    exact h.block (Below.heap_alloc _ _ _ (by simp)))
  have HQ4 := hid (show PB ((((w.alloc (.cells #[.int .i64 (n : Int), .map (some g)] 65)).alloc (.cells #[.int .i64 0, .map none] 65)).alloc (.map #[] 0)).alloc (.cells #[.int .i64 (n : Int), .map (some (w.heap.size + 1 + 1))] 65)) (w.heap.size + 1 + 1 + 1) n (w.heap.size + 1 + 1) by
    have h := PB.made (((w.alloc (.cells #[.int .i64 (n : Int), .map (some g)] 65)).alloc (.cells #[.int .i64 0, .map none] 65)).alloc (.map #[] 0)) n (w.heap.size + 1 + 1)
    rw [World.size_alloc, World.size_alloc, World.size_alloc] at h
    exact h)
  have HB4 := hid ((HBa.out.alloc (by first | (simp; done) | (simp; omega)) (.map #[] 0)).alloc (by first | (simp; done) | (simp; omega)) (.cells #[.int .i64 (n : Int), .map (some (w.heap.size + 1 + 1))] 65))
  have HP4 := hid (HP0.out.below HB4.out)
  have HT4 := hid (HT0.out.below HB4.out)
  clear HBa HBb
  generalize (((w.alloc (.cells #[.int .i64 (n : Int), .map (some g)] 65)).alloc (.cells #[.int .i64 0, .map none] 65)).alloc (.map #[] 0)).alloc (.cells #[.int .i64 (n : Int), .map (some (w.heap.size + 1 + 1))] 65) = w4 at *
  have p0 := HA4.out.c0
  have p1 := HA4.out.c1
  go_wp2_with fail
  (with_reducible refine (ppairs_any n g h12 _).mono ?_)
  rintro e w5 ⟨⟨v, rfl, hown⟩, hb⟩
  obtain ⟨pa, pc, rfl, hE⟩ := Pq.of_own hown
  have HE := hid hE
  have HA5 := hid (HA4.out.below hb)
  have HZ5 := hid (HZ4.out.below hb HZ4.out.lt)
  have HQ5 := hid (HQ4.out.below hb)
  have HN5 := hid (PN.free n (HM4.out.below hb))
  have HP5 := hid (HP4.out.below hb)
  have HT5 := hid (HT4.out.below hb)
  have HB5 := hid (HB4.out.trans (hb.mono HB4.out.size))
  have HNE := hid (show 0 ≠ w.heap.size + 1 + 1 from by have := HTL.out; omega)
  clear hb hown hE p0 p1
  go_wp2_with fail
  go_loopw [13] (fun a wr => ∃ j : Nat, j ≤ (pqL n).length ∧ a = .int .i64 j ∧ ∃ C : Nat → Nat → Nat, Hid (ClsI n N C ((pqL n).take j)) ∧ Hid (PN wr (w.heap.size + 1 + 1) n C) ∧ Hid (Wr (w.heap.size + 1 + 1) w5 wr)) (fun a _ => (pqL n).length - (intOf a).toNat)
  case atStart => exact ⟨0, by omega, rfl, frQ, by rw [List.take_zero]; exact hid (ClsI.start HOK.out), HN5, hid (Wr.refl _ _)⟩
  case round =>
    obtain ⟨j, hj, rfl, C, HI, HN, HW⟩ := hrel
    clear HS
    obtain ⟨wi, rfl⟩ : ∃ wi : World, wi = wr := ⟨_, rfl⟩
    have HAi := hid (HA5.out.wr HW.out (by omega))
    have HZi := hid (HZ5.out.wr HW.out (by omega))
    have HQi := hid (HQ5.out.wr HW.out (by omega))
    have HPi := hid (HP5.out.wr HW.out (by have := HGL.out; omega))
    have HTi := hid (HT5.out.wr HW.out HNE.out)
    have HBi := hid (HB5.out.trans (HW.out.below (by omega) HB5.out.size))
    by_cases hjl : j < (pqL n).length
    · have hdj : decide ((j : Int) < ((pqL n).length : Int)) = true := by simp; omega
      have hdk : decide (j < (pqL n).length) = true := by simp; omega
      obtain ⟨gl, rfl, hl1, hl2, c0, c1⟩ := HE.out j hjl
      have hl3 : gl ≠ w.heap.size + 1 + 1 := by have := HS4.out; omega
      have d0 : wi.cell? ⟨gl, j * 2, none⟩ = _ := (HW.out.cell hl2 hl3).trans c0
      have d1 : wi.cell? ⟨gl, j * 2 + 1, none⟩ = _ := (HW.out.cell hl2 hl3).trans c1
      have HTK := hid (pq_take hjl)
      have HPT := hid (pqL_at hjl)
      have HSU := hid (show ∀ q ∈ (pqL n).take j, q.1 < n ∧ q.2 < n from fun q hq => by
        have := pqL_mem.1 (List.mem_of_mem_take hq)
        omega)
      clear c0 c1
      generalize (pqL n).getD j (0, 0) = p at *
      obtain ⟨i, k⟩ := p
      have hik : i < k := HPT.out.1
      have hkn : k < n := HPT.out.2
      have hin : i < n := by omega
      simp only at d0 d1
      go_upto_region 5 with fail
      have HBx := hid ((Below.refl wi.heap.size wi).alloc (Nat.le_refl _) (.cells #[.int .i64 (i : Int), .int .i64 (k : Int)] 132))
      have e0 : (wi.alloc (.cells #[.int .i64 (i : Int), .int .i64 (k : Int)] 132)).cell? ⟨wi.heap.size, 0, none⟩ = some (.int .i64 (i : Int)) := by simp [go_sem]
      have e1 : (wi.alloc (.cells #[.int .i64 (i : Int), .int .i64 (k : Int)] 132)).cell? ⟨wi.heap.size, 1, none⟩ = some (.int .i64 (k : Int)) := by simp [go_sem]
      have HA6 := hid (HAi.out.below HBx.out)
      have HQ6 := hid (HQi.out.below HBx.out)
      have HP6 := hid (HPi.out.below HBx.out)
      have HN6 := hid (HN.out.below HBx.out)
      have HT6 := hid (HTi.out.below HBx.out)
      have HW6 := hid (HW.out.trans (Wr.of_below (q := w.heap.size + 1 + 1) HBx.out))
      have HL6 := hid (show wi.heap.size ≠ w.heap.size + 1 + 1 from by have := HN.out.lt; omega)
      clear d0 d1 HBx
      generalize wi.alloc (.cells #[.int .i64 (i : Int), .int .i64 (k : Int)] 132) = w6 at *
      have a0 := HA6.out.c0
      have a1 := HA6.out.c1
      have b0 := HQ6.out.c0
      have b1 := HQ6.out.c1
      have hla := HA6.out.lt
      have hlb := HQ6.out.lt
      have hle := cell_lt' e0
      have n8 := HOK.out.lt i k hin hkn
      have hmu := Nat.lt_succ_self (muP n C)
      go_region_held3 (fun wx => wx.cell? ⟨w.heap.size, 0, none⟩ = some (.int .i64 (n : Int)) ∧ wx.cell? ⟨w.heap.size, 1, none⟩ = some (.map (some g)) ∧ wx.cell? ⟨w.heap.size + 1 + 1 + 1, 0, none⟩ = some (.int .i64 (n : Int)) ∧ wx.cell? ⟨w.heap.size + 1 + 1 + 1, 1, none⟩ = some (.map (some (w.heap.size + 1 + 1))) ∧ wx.cell? ⟨wi.heap.size, 0, none⟩ = some (.int .i64 (i : Int)) ∧ wx.cell? ⟨wi.heap.size, 1, none⟩ = some (.int .i64 (k : Int)))
        (first
          | exact ⟨a0, a1, b0, b1, e0, e1⟩
          | exact ⟨by rw [HX.cell (p := ⟨w.heap.size, 0, none⟩) hla]; exact a0, by rw [HX.cell (p := ⟨w.heap.size, 1, none⟩) hla]; exact a1, by rw [HX.cell (p := ⟨w.heap.size + 1 + 1 + 1, 0, none⟩) hlb]; exact b0, by rw [HX.cell (p := ⟨w.heap.size + 1 + 1 + 1, 1, none⟩) hlb]; exact b1, by rw [HX.cell (p := ⟨wi.heap.size, 0, none⟩) hle]; exact e0, by rw [HX.cell (p := ⟨wi.heap.size, 1, none⟩) hle]; exact e1⟩
          | exact ⟨(HW8.out.cell hla (by omega)).trans a0, (HW8.out.cell hla (by omega)).trans a1, (HW8.out.cell hlb (by omega)).trans b0, (HW8.out.cell hlb (by omega)).trans b1, (HW8.out.cell hle HL6.out).trans e0, (HW8.out.cell hle HL6.out).trans e1⟩)
        (first
           | (go_at_call 55; (with_reducible refine (pset_any g n N HOK.out i k hin hkn _ (HP6.out.below (by go_grown)) (HT6.out.below (by go_grown))).mono ?_); rintro e w7 ⟨rfl, hb'⟩; obtain ⟨HX, hz0', hz', hc', hf'⟩ := bst (w0 := w6) (by go_grown) hb'; clear hb' hf' hc' hz' hz0')
           | (go_at_call 138; (with_reducible refine (narrowP_any n (w.heap.size + 1 + 1) HNE.out _ C hmu HI.out.ok i k _ hin hkn n8 _ (HN6.out.below (by go_grown)) (HT6.out.below (by go_grown))).mono ?_); rintro e w8 ⟨rfl, C', hnar, hpn, hwr⟩; have HNR := hid hnar; have HP8 := hid hpn; have HW8 := hid ((Wr.of_below (q := w.heap.size + 1 + 1) HX).trans hwr); clear hnar hpn hwr) | fail)
      all_goals
        have HI2 := hid (show ClsI n N C' ((pqL n).take (j + 1)) by
          rw [HTK.out]
          exact ClsI.step (p := (i, k)) HI.out hin hkn (show i ≠ k by omega) HSU.out HNR.out)
        have HWn := hid (HW6.out.trans HW8.out)
        have hln := HLN.out
        clear a0 a1 b0 b1 e0 e1 hla hlb hle
        go_wp2_with fail
        go_roundw
        case rel => exact ⟨j + 1, by omega, by go_num, C', HI2, HP8, HWn⟩
        case measure => simp [intOf]; omega
    · obtain rfl : j = (pqL n).length := by omega
      have hdj : decide (((pqL n).length : Int) < ((pqL n).length : Int)) = false := by simp
      rw [List.take_length] at HI
      have HD := hid (ClsI.done HOK.out HI.out fun i k hik hk => pqL_mem.2 ⟨hik, hk⟩)
      have b0 := HQi.out.c0
      have b1 := HQi.out.c1
      have z0 := HZi.out.c0
      have z1 := HZi.out.c1
      have zf0 := HZi.out.fr 0
      have zf1 := HZi.out.fr 1
      go_wp2_with fail
      refine bodyPost_ret (by simp [results, Tryd.results90, go_sem, *]; try rfl) rfl ?_
      have h0 := Wr.setCell wi (w.heap.size + 1) 0 (.int .i64 (n : Int))
      have h1 := Wr.setCell (wi.setCell ⟨w.heap.size + 1, 0, none⟩ (.int .i64 (n : Int))) (w.heap.size + 1) 1 (.map (some (w.heap.size + 1 + 1)))
      exact ⟨⟨_, C, rfl, by omega, HD.out, HN.out.wr (h0.trans h1) (by omega)⟩, (HBi.out.setCell (p := ⟨w.heap.size + 1, 0, none⟩) (by simp) _).setCell (p := ⟨w.heap.size + 1, 1, none⟩) (by simp) _⟩
/-- some pair is empty -/
def empQ (n : Nat) (C : Nat → Nat → Nat) : Bool := (pqL n).any fun p => C p.1 p.2 == 0
theorem empQ_iff {n : Nat} {C : Nat → Nat → Nat} (h : OkP n C) : empQ n C = false ↔ ∀ a b, a < n → b < n → C a b ≠ 0 := by
  unfold empQ
  rw [List.any_eq_false]
  constructor
  · intro H a b ha hb e
    rcases Nat.lt_trichotomy a b with q | q | q
    · have := H (a, b) (pqL_mem.2 ⟨q, hb⟩)
      simp [e] at this
    · subst q
      rw [h.dia a ha] at e
      omega
    · have h1 := H (b, a) (pqL_mem.2 ⟨q, ha⟩)
      have h2 : C b a = 0 := by rw [h.tur a b ha hb, e]; rfl
      simp [h2] at h1
  · intro H p hp
    have := pqL_mem.1 hp
    have := H p.1 p.2 (by omega) this.2
    simpa using this
set_option maxHeartbeats 1000000 in
theorem clEm_any (b g n : Nat) (C : Nat → Nat → Nat) (hC : OkP n C) (i k : Nat) (hi : i < n) (hk : k < n) (w : World) (hB : PB w b n g) (hP : PN w g n C) (hT : TO w) :
    Calls Tryd.prog 140 #[.agg #[.int .i64 (i : Int), .int .i64 (k : Int)], .pointer (some ⟨b, 0, none⟩)] w fun e w' => e = .returned (.bool (C i k == 0)) ∧ Below w.heap.size w w' := by
  have HBx := hid ((Below.refl w.heap.size w).alloc (Nat.le_refl _) (.cells #[.int .i64 (i : Int), .int .i64 (k : Int)] 132))
  have HP := hid (hP.below HBx.out)
  have HT := hid (hT.below HBx.out)
  have HA := hid (hB.below HBx.out)
  have HOK := hid hC
  have hq : (((C i k : Nat) : Int) == 0) = (C i k == 0) := by
    rw [Bool.eq_iff_iff, beq_iff_eq, beq_iff_eq]; omega
  have HQ := hid hq
  have c0 : (w.alloc (.cells #[.int .i64 (i : Int), .int .i64 (k : Int)] 132)).cell? ⟨w.heap.size, 0, none⟩ = some (.int .i64 (i : Int)) := by simp [go_sem]
  have c1 : (w.alloc (.cells #[.int .i64 (i : Int), .int .i64 (k : Int)] 132)).cell? ⟨w.heap.size, 1, none⟩ = some (.int .i64 (k : Int)) := by simp [go_sem]
  clear hB hP hT hC hq
  have HS := AllLt.start w; go_enter Tryd.func140, Tryd.ntmps140
  go_upto_region 1 with fail
  generalize w.alloc (.cells #[.int .i64 (i : Int), .int .i64 (k : Int)] 132) = w1 at *
  have a0 := HA.out.c0
  have a1 := HA.out.c1
  go_wp2_with fail
  (with_reducible refine (pset_any g n C HOK.out i k hi hk _ HP.out HT.out).mono ?_)
  rintro e w2 ⟨rfl, hb⟩
  have HB2 := hid (HBx.out.trans (hb.mono HBx.out.size))
  clear hb a0 a1 c0 c1
  go_wp2_with (go_at_call 106; (with_reducible refine (ordersOf_none _).mono ?_); rintro e w' ⟨rfl, rfl⟩)
  go_ret
  exact ⟨ret_bool (by first | exact HQ.out | (rw [← HQ.out]; rfl)), HB2.out⟩
set_option maxHeartbeats 1000000 in
theorem isEmptyP_any (g n : Nat) (C : Nat → Nat → Nat) (hC : OkP n C) (w : World) (hP : PN w g n C) (hT : TO w) :
    Calls Tryd.prog 91 #[.agg #[.int .i64 (n : Int), .map (some g)]] w fun e w' => e = .returned (.bool (empQ n C)) ∧ Below w.heap.size w w' := by
  have h12 := hC.le
  have HOK := hid hC
  have HB1 := hid ((Below.refl w.heap.size w).alloc (Nat.le_refl _) (.cells #[.int .i64 (n : Int), .map (some g)] 65))
  have HA1 := hid (PB.made w n g)
  have HP1 := hid (hP.below HB1.out)
  have HT1 := hid (hT.below HB1.out)
  clear hP hT hC
  have HS := AllLt.start w; go_enter Tryd.func91, Tryd.ntmps91
  go_upto_region 1 with fail
  generalize w.alloc (.cells #[.int .i64 (n : Int), .map (some g)] 65) = w1 at *
  have p0 := HA1.out.c0
  have p1 := HA1.out.c1
  go_wp2_with fail
  (with_reducible refine (ppairs_any n g h12 _).mono ?_)
  rintro e w2 ⟨⟨v, rfl, hown⟩, hb⟩
  have HE := hid (Pq.of_own hown)
  have HB2 := hid (HB1.out.trans (hb.mono HB1.out.size))
  have HA2 := hid (HA1.out.below hb)
  have HP2 := hid (HP1.out.below hb)
  have HT2 := hid (HT1.out.below hb)
  have HX := hid (contQ_any 140 (fun _ _ => by kernel_rfl) (.pointer (some ⟨w.heap.size, 0, none⟩)) (pqL n) (fun p => C p.1 p.2 == 0) v w2 _ (pqL_len h12) HE.out fun j hj w6 hb6 => by
    have he := pqL_at hj
    exact clEm_any w.heap.size g n C HOK.out _ _ (by omega) (by omega) w6 (HA2.out.below hb6) (HP2.out.below hb6) (HT2.out.below hb6))
  clear hown hb p0 p1
  go_wp2_with fail
  (with_reducible refine HX.out.mono ?_)
  rintro e w3 ⟨rfl, hb⟩
  have HB3 := hid (HB2.out.trans (hb.mono HB2.out.size))
  clear hb
  go_wp2_with fail
  go_ret
  exact ⟨rfl, HB3.out⟩
theorem iClosePoints_no (z : Int) (s : ByteArray) (h : PV z s = false) (w : World) (hT : TO w) :
    Calls Tryd.prog 38 #[.agg #[.int .i64 z, .string s]] w fun e w' => e = .returned (.tuple #[.agg #[.int .i64 0, .string ⟨#[]⟩], .bool false]) ∧ Below w.heap.size w w' := by
  have HT := hid (hT.below (((Below.refl w.heap.size w).alloc (Nat.le_refl _) (.cells #[.int .i64 z, .string s] 26)).alloc (by simp) (.cells #[.int .i64 0, .string ⟨#[]⟩] 26)))
  have HC := hid (pof_no z s h _ HT.out)
  clear hT h
  have HS := AllLt.start w; have hn2 := lt2; have hn3 := lt3; have hn4 := lt4; go_enter Tryd.func38, Tryd.ntmps38
  go_wp2_with (first | (go_at_call 52; (with_reducible refine (HC.out).mono ?_); rintro e w' ⟨rfl, hb⟩; obtain ⟨HB, hz0, hz, hc, hf⟩ := bst (w0 := w) (by go_grown) hb; clear hb; (try simp at hz); (first | ((refine HS.g5 (m := w'.heap.size) ?_ ?_); (focus omega); intro HS) | ((refine HS.g4 (m := w'.heap.size) ?_ ?_); (focus omega); intro HS) | ((refine HS.g3 (m := w'.heap.size) ?_ ?_); (focus omega); intro HS) | ((refine HS.g2 (m := w'.heap.size) ?_ ?_); (focus omega); intro HS) | ((refine HS.g1 (m := w'.heap.size) ?_ ?_); (focus omega); intro HS) | ((refine HS.g0 (m := w'.heap.size) ?_ ?_); (focus omega); intro HS)); have HU := HS; simp only [AllLt] at HU))
  refine bodyPost_ret (by simp [results, Tryd.results38, go_sem, *]; try rfl) rfl ?_
  exact ⟨rfl, by (repeat' (first | (with_reducible exact Below.refl _ _) | (with_reducible refine Below.setCell ?_ ?_ _) | (with_reducible refine below_drewN' ?_ _) | (with_reducible refine below_drew' ?_) | (with_reducible refine Below.alloc ?_ ?_ _) | (with_reducible assumption) | go_size))⟩
set_option maxHeartbeats 2000000 in
theorem iClosePoints_yes (n : Nat) (N : Nat → Nat → Nat) (hN : OkP n N) (w : World) (hT : TO w) :
    Calls Tryd.prog 38 #[.agg #[.int .i64 (n : Int), .string (pntS n N)]] w fun e w' => (∃ C, IsClo n N C ∧ e = .returned (.tuple #[.agg #[.int .i64 (n : Int), .string (pntS n C)], .bool true])) ∧ Below w.heap.size w w' := by
  have HB0 := hid (((Below.refl w.heap.size w).alloc (Nat.le_refl _) (.cells #[.int .i64 (n : Int), .string (pntS n N)] 26)).alloc (by simp) (.cells #[.int .i64 0, .string ⟨#[]⟩] 26))
  have HT0 := hid (hT.below HB0.out)
  have HR0 := hid (show Pk ((w.alloc (.cells #[.int .i64 (n : Int), .string (pntS n N)] 26)).alloc (.cells #[.int .i64 0, .string ⟨#[]⟩] 26)) (w.heap.size + 1) 0 ⟨#[]⟩ by
    have := Pk.made (w.alloc (.cells #[.int .i64 (n : Int), .string (pntS n N)] 26)) 0 ⟨#[]⟩
    rw [World.size_alloc] at this
    exact this)
  have HK0 := hid (show Pk ((w.alloc (.cells #[.int .i64 (n : Int), .string (pntS n N)] 26)).alloc (.cells #[.int .i64 0, .string ⟨#[]⟩] 26)) w.heap.size n (pntS n N) from (Below.heap_alloc _ _ _ (by simp)).trans (Pk.made w n (pntS n N)))
  have HC := hid (pof_yes n N hN)
  have HOK := hid hN
  clear hT hN
  generalize pntS n N = s at *
  have HS := AllLt.start w; go_enter Tryd.func38, Tryd.ntmps38
  go_upto_region 1 with fail
  generalize (w.alloc (.cells #[.int .i64 (n : Int), .string s] 26)).alloc (.cells #[.int .i64 0, .string ⟨#[]⟩] 26) = w0 at *
  have q0 := HK0.out.c0
  have q1 := HK0.out.c1
  go_wp2_with fail
  (with_reducible refine (HC.out _ HT0.out).mono ?_)
  rintro e w1 ⟨⟨g, rfl, hg, hp⟩, hb⟩
  have HR1 := hid (HR0.out.below hb HR0.out.lt)
  have HB1 := hid (HB0.out.trans (hb.mono HB0.out.size))
  have HT1 := hid (HT0.out.below hb)
  have HBB := hid ((Below.refl w1.heap.size w1).alloc (Nat.le_refl _) (.cells #[.int .i64 (n : Int), .map (some g)] 65))
  have HP2 := hid (PB.made w1 n g)
  have HN2 := hid (hp.below HBB.out)
  have HT2 := hid (HT1.out.below HBB.out)
  have HR2 := hid (HR1.out.below HBB.out HR1.out.lt)
  have HB2 := hid (HB1.out.trans (HBB.out.mono HB1.out.size))
  clear hb hp hg q0 q1
  go_upto_region 2 with fail
  generalize w1.alloc (.cells #[.int .i64 (n : Int), .map (some g)] 65) = w2 at *
  have p0 := HP2.out.c0
  have p1 := HP2.out.c1
  go_wp2_with fail
  (with_reducible refine (closedP_any g n N HOK.out _ HN2.out HT2.out).mono ?_)
  rintro e w3 ⟨⟨g', C, rfl, hg', hclo, hpn⟩, hb⟩
  have HCL := hid hclo
  have HR3 := hid (HR2.out.below hb HR2.out.lt)
  have HT3 := hid (HT2.out.below hb)
  have HB3 := hid (HB2.out.trans (hb.mono HB2.out.size))
  have HPN := hid hpn
  clear hb p0 p1 hclo hpn
  go_wp2_with fail
  (with_reducible refine (pnet_any n g' C HCL.out.ok _ HPN.out HT3.out).mono ?_)
  rintro e w4 ⟨rfl, hb⟩
  have HR4 := hid (HR3.out.below hb HR3.out.lt)
  have HB4 := hid (HB3.out.trans (hb.mono HB3.out.size))
  clear hb
  have z0 := HR4.out.c0
  have z1 := HR4.out.c1
  have zf0 := HR4.out.fr 0
  have zf1 := HR4.out.fr 1
  go_wp2_with fail
  refine bodyPost_ret (by simp [results, Tryd.results38, go_sem, *]; try rfl) rfl ?_
  exact ⟨⟨C, HCL.out, rfl⟩, (HB4.out.setCell (p := ⟨w.heap.size + 1, 0, none⟩) (by simp) _).setCell (p := ⟨w.heap.size + 1, 1, none⟩) (by simp) _⟩
theorem iPointsCons_no (z : Int) (s : ByteArray) (h : PV z s = false) (w : World) (hT : TO w) :
    Calls Tryd.prog 40 #[.agg #[.int .i64 z, .string s]] w fun e w' => e = .returned (.bool false) ∧ Below w.heap.size w w' := by
  have HT := hid (hT.below ((Below.refl w.heap.size w).alloc (Nat.le_refl _) (.cells #[.int .i64 z, .string s] 26)))
  have HC := hid (pof_no z s h _ HT.out)
  clear hT h
  have HS := AllLt.start w; have hn2 := lt2; have hn3 := lt3; have hn4 := lt4; go_enter Tryd.func40, Tryd.ntmps40
  go_wp2_with (first | (go_at_call 52; (with_reducible refine (HC.out).mono ?_); rintro e w' ⟨rfl, hb⟩; obtain ⟨HB, hz0, hz, hc, hf⟩ := bst (w0 := w) (by go_grown) hb; clear hb; (try simp at hz); (first | ((refine HS.g5 (m := w'.heap.size) ?_ ?_); (focus omega); intro HS) | ((refine HS.g4 (m := w'.heap.size) ?_ ?_); (focus omega); intro HS) | ((refine HS.g3 (m := w'.heap.size) ?_ ?_); (focus omega); intro HS) | ((refine HS.g2 (m := w'.heap.size) ?_ ?_); (focus omega); intro HS) | ((refine HS.g1 (m := w'.heap.size) ?_ ?_); (focus omega); intro HS) | ((refine HS.g0 (m := w'.heap.size) ?_ ?_); (focus omega); intro HS)); have HU := HS; simp only [AllLt] at HU))
  go_ret
  exact ⟨rfl, by (repeat' (first | (with_reducible exact Below.refl _ _) | (with_reducible refine Below.setCell ?_ ?_ _) | (with_reducible refine below_drewN' ?_ _) | (with_reducible refine below_drew' ?_) | (with_reducible refine Below.alloc ?_ ?_ _) | (with_reducible assumption) | go_size))⟩
set_option maxHeartbeats 2000000 in
theorem iPointsCons_yes (n : Nat) (N : Nat → Nat → Nat) (hN : OkP n N) (w : World) (hT : TO w) :
    Calls Tryd.prog 40 #[.agg #[.int .i64 (n : Int), .string (pntS n N)]] w fun e w' => (∃ C, IsClo n N C ∧ e = .returned (.bool (!empQ n C))) ∧ Below w.heap.size w w' := by
  have HB0 := hid ((Below.refl w.heap.size w).alloc (Nat.le_refl _) (.cells #[.int .i64 (n : Int), .string (pntS n N)] 26))
  have HT0 := hid (hT.below HB0.out)
  have HK0 := hid (Pk.made w n (pntS n N))
  have HC := hid (pof_yes n N hN)
  have HOK := hid hN
  clear hT hN
  generalize pntS n N = s at *
  have HS := AllLt.start w; go_enter Tryd.func40, Tryd.ntmps40
  go_upto_region 1 with fail
  generalize w.alloc (.cells #[.int .i64 (n : Int), .string s] 26) = w0 at *
  have q0 := HK0.out.c0
  have q1 := HK0.out.c1
  go_wp2_with fail
  (with_reducible refine (HC.out _ HT0.out).mono ?_)
  rintro e w1 ⟨⟨g, rfl, hg, hp⟩, hb⟩
  have HB1 := hid (HB0.out.trans (hb.mono HB0.out.size))
  have HT1 := hid (HT0.out.below hb)
  have HBB := hid ((Below.refl w1.heap.size w1).alloc (Nat.le_refl _) (.cells #[.int .i64 (n : Int), .map (some g)] 65))
  have HP2 := hid (PB.made w1 n g)
  have HN2 := hid (hp.below HBB.out)
  have HT2 := hid (HT1.out.below HBB.out)
  have HB2 := hid (HB1.out.trans (HBB.out.mono HB1.out.size))
  clear hb hp hg q0 q1
  go_upto_region 2 with fail
  generalize w1.alloc (.cells #[.int .i64 (n : Int), .map (some g)] 65) = w2 at *
  have p0 := HP2.out.c0
  have p1 := HP2.out.c1
  go_wp2_with fail
  (with_reducible refine (closedP_any g n N HOK.out _ HN2.out HT2.out).mono ?_)
  rintro e w3 ⟨⟨g', C, rfl, hg', hclo, hpn⟩, hb⟩
  have HCL := hid hclo
  have HT3 := hid (HT2.out.below hb)
  have HB3 := hid (HB2.out.trans (hb.mono HB2.out.size))
  have HPN := hid hpn
  clear hb p0 p1 hclo hpn
  go_wp2_with fail
  (with_reducible refine (isEmptyP_any g' n C HCL.out.ok _ HPN.out HT3.out).mono ?_)
  rintro e w4 ⟨rfl, hb⟩
  have HB4 := hid (HB3.out.trans (hb.mono HB3.out.size))
  clear hb
  go_wp2_with fail
  go_ret
  exact ⟨⟨C, HCL.out, rfl⟩, HB4.out⟩
end Go.Proofs.YtmdgkhebefnfeaaDoor.C
