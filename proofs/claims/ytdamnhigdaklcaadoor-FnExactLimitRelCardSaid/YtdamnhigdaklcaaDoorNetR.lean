/- The mirrored network: the model, the program, the exact law. -/
import Derived.Test.YtdamnhigdaklcaaDoorNetM
import Derived.Test.YtdamnhigdaklcaaDoorNetO
namespace Go.Proofs.YtdamnhigdaklcaaDoor.C
open Go.RowKit
set_option linter.unusedVariables false
set_option linter.unusedSimpArgs false
set_option maxHeartbeats 1000000 in
theorem iMirrorNet_no (z : Int) (s : ByteArray) (h : NV z s = false) (w : World) (hT : TB w) :
    Calls Tryd.prog 34 #[.agg #[.int .i64 z, .string s]] w fun e w' => e = .returned (.tuple #[.agg #[.int .i64 0, .string ⟨#[]⟩], .bool false]) ∧ Below w.heap.size w w' := by
  have HK := hid (show Nk ((w.alloc (.cells #[.int .i64 z, .string s] 26)).alloc (.cells #[.int .i64 0, .string ⟨#[]⟩] 26)) (w.heap.size + 1) 0 ⟨#[]⟩ by
    have h := Nk.made (w.alloc (.cells #[.int .i64 z, .string s] 26)) 0 ⟨#[]⟩
    rw [World.size_alloc] at h
    exact h)
  have HB := hid (((Below.refl w.heap.size w).alloc (Nat.le_refl _) (.cells #[.int .i64 z, .string s] 26)).alloc (by simp) (.cells #[.int .i64 0, .string ⟨#[]⟩] 26))
  have hz : Hid (((w.alloc (.cells #[.int .i64 z, .string s] 26)).alloc (.cells #[.int .i64 0, .string ⟨#[]⟩] 26)).heap.size = w.heap.size + 1 + 1) := hid (by rw [World.size_alloc, World.size_alloc])
  have HT := hid (hT.below HB.out)
  have HNV := hid h
  clear h hT
  have HS := AllLt.start w; go_enter Tryd.func34, Tryd.ntmps34
  go_wp2_with fail
  (with_reducible refine (networkOf_no z s HNV.out _ HT.out).mono ?_)
  rintro e w1 ⟨rfl, hb⟩
  have HB1 := hid (HB.out.trans (hb.mono HB.out.size))
  have HK1 := hid (HK.out.below hb HK.out.lt)
  have hz1 : w.heap.size + 1 + 1 ≤ w1.heap.size := by have := hb.size; have := hz.out; omega
  have HB2 := hid (below_setRow (HB1.out.alloc HB1.out.size (.cells (netV 0 fun _ _ => 0) 64)) HB1.out.size (netV 0 fun _ _ => 0))
  have HK2 := hid (show Nk ((w1.alloc (.cells (netV 0 fun _ _ => 0) 64)).setRow w1.heap.size (netV 0 fun _ _ => 0)) (w.heap.size + 1) 0 ⟨#[]⟩ from by
    unfold Nk World.setRow
    rw [Array.getElem?_modify, if_neg (by omega)]
    exact (Below.heap_alloc w1 _ _ HK1.out.lt).trans HK1.out)
  clear hb
  go_upto_region 2 with (first | refine al_net rfl rfl ?_ | refine st_net rfl _ _ rfl rfl rfl (NB.made w1 0 fun _ _ => 0) ?_)
  generalize (w1.alloc (.cells (netV 0 fun _ _ => 0) 64)).setRow w1.heap.size (netV 0 fun _ _ => 0) = w2 at *
  have r0 := HK2.out.c0
  have r1 := HK2.out.c1
  have rf0 := HK2.out.fr 0
  have rf1 := HK2.out.fr 1
  go_wp2_with fail
  refine bodyPost_ret (by simp [results, Tryd.results34, go_sem, *]; try rfl) rfl ?_
  exact ⟨rfl, (HB2.out.setCell (p := ⟨w.heap.size + 1, 0, none⟩) (by simp) _).setCell (p := ⟨w.heap.size + 1, 1, none⟩) (by simp) _⟩
set_option maxHeartbeats 1000000 in
theorem iMirrorNet_yes (n : Nat) (R : Nat → Nat → Nat) (hR : OkR n R) (w : World) (hT : TB w) :
    Calls Tryd.prog 34 #[.agg #[.int .i64 n, .string (netS n R)]] w fun e w' => e = .returned (.tuple #[.agg #[.int .i64 n, .string (netS n (mirR R))], .bool true]) ∧ Below w.heap.size w w' := by
  have HN0 := hid (networkOf_yes n R hR)
  have HC := hid (changedM_any n R hR)
  have HE := hid (net_any n hR.le (mirR R) (mirR_ok hR).lt)
  clear hR
  generalize netS n R = s at *
  have HK := hid (show Nk ((w.alloc (.cells #[.int .i64 n, .string s] 26)).alloc (.cells #[.int .i64 0, .string ⟨#[]⟩] 26)) (w.heap.size + 1) 0 ⟨#[]⟩ by
    have h := Nk.made (w.alloc (.cells #[.int .i64 n, .string s] 26)) 0 ⟨#[]⟩
    rw [World.size_alloc] at h
    exact h)
  have HB := hid (((Below.refl w.heap.size w).alloc (Nat.le_refl _) (.cells #[.int .i64 n, .string s] 26)).alloc (by simp) (.cells #[.int .i64 0, .string ⟨#[]⟩] 26))
  have hz : Hid (((w.alloc (.cells #[.int .i64 n, .string s] 26)).alloc (.cells #[.int .i64 0, .string ⟨#[]⟩] 26)).heap.size = w.heap.size + 1 + 1) := hid (by rw [World.size_alloc, World.size_alloc])
  have HT0 := hid hT
  have HT := hid (hT.below HB.out)
  clear hT
  have HS := AllLt.start w; go_enter Tryd.func34, Tryd.ntmps34
  go_wp2_with fail
  (with_reducible refine (HN0.out _ HT.out).mono ?_)
  rintro e w1 ⟨rfl, hb⟩
  have HB1 := hid (HB.out.trans (hb.mono HB.out.size))
  have HK1 := hid (HK.out.below hb HK.out.lt)
  have hz1 : w.heap.size + 1 + 1 ≤ w1.heap.size := by have := hb.size; have := hz.out; omega
  have HB2 := hid (below_setRow (HB1.out.alloc HB1.out.size (.cells (netV 0 fun _ _ => 0) 64)) HB1.out.size (netV n R))
  have HK2 := hid (show Nk ((w1.alloc (.cells (netV 0 fun _ _ => 0) 64)).setRow w1.heap.size (netV n R)) (w.heap.size + 1) 0 ⟨#[]⟩ from by
    unfold Nk World.setRow
    rw [Array.getElem?_modify, if_neg (by omega)]
    exact (Below.heap_alloc w1 _ _ HK1.out.lt).trans HK1.out)
  have HN2 := hid ((NB.made w1 0 fun _ _ => 0).row n R)
  clear hb
  go_upto_region 2 with (first | refine al_net rfl rfl ?_ | refine st_net rfl _ _ rfl rfl rfl (NB.made w1 0 fun _ _ => 0) ?_)
  generalize (w1.alloc (.cells (netV 0 fun _ _ => 0) 64)).setRow w1.heap.size (netV n R) = w2 at *
  have HT2 := hid (HT0.out.below HB2.out)
  go_wp2_with (refine ld_net rfl _ rfl rfl HN2.out ?_)
  (with_reducible refine (HC.out _ HT2.out).mono ?_)
  rintro e w3 ⟨rfl, hb⟩
  have HK3 := hid (HK2.out.below hb HK2.out.lt)
  have HB3 := hid (HB2.out.trans (hb.mono HB2.out.size))
  clear hb
  go_wp2_with fail
  (with_reducible refine (HE.out _).mono ?_)
  rintro e w4 ⟨rfl, hb⟩
  have hk := HK3.out.below hb HK3.out.lt
  have HB4 := hid (HB3.out.trans (hb.mono HB3.out.size))
  have r0 := hk.c0
  have r1 := hk.c1
  have rf0 := hk.fr 0
  have rf1 := hk.fr 1
  clear hk hb
  go_wp2_with fail
  refine bodyPost_ret (by simp [results, Tryd.results34, go_sem, *]; try rfl) rfl ?_
  exact ⟨rfl, (HB4.out.setCell (p := ⟨w.heap.size + 1, 0, none⟩) (by simp) _).setCell (p := ⟨w.heap.size + 1, 1, none⟩) (by simp) _⟩
set_option maxHeartbeats 1000000 in
theorem sMirrorNet_no (z : Int) (s : ByteArray) (h : NV z s = false) (w : World) :
    Calls Tryd.prog 33 #[.agg #[.int .i64 z, .string s]] w fun e w' => e = .returned (.tuple #[.agg #[.int .i64 0, .string ⟨#[]⟩], .bool false]) ∧ Below w.heap.size w w' := by
  have HK := hid (show Nk ((w.alloc (.cells #[.int .i64 z, .string s] 26)).alloc (.cells #[.int .i64 0, .string ⟨#[]⟩] 26)) (w.heap.size + 1) 0 ⟨#[]⟩ by
    have h := Nk.made (w.alloc (.cells #[.int .i64 z, .string s] 26)) 0 ⟨#[]⟩
    rw [World.size_alloc] at h
    exact h)
  have HB := hid (((Below.refl w.heap.size w).alloc (Nat.le_refl _) (.cells #[.int .i64 z, .string s] 26)).alloc (by simp) (.cells #[.int .i64 0, .string ⟨#[]⟩] 26))
  have HNV := hid h
  clear h
  have HS := AllLt.start w; go_enter Tryd.func33, Tryd.ntmps33
  go_wp2_with fail
  (with_reducible refine (sNetValid_any z s _).mono ?_)
  rintro e w1 ⟨rfl, hb⟩
  rw [HNV.out]
  have HB1 := hid (HB.out.trans (hb.mono HB.out.size))
  have hk := HK.out.below hb HK.out.lt
  have r0 := hk.c0
  have r1 := hk.c1
  have rf0 := hk.fr 0
  have rf1 := hk.fr 1
  clear hk hb
  go_wp2_with fail
  refine bodyPost_ret (by simp [results, Tryd.results33, go_sem, *]; try rfl) rfl ?_
  exact ⟨rfl, (HB1.out.setCell (p := ⟨w.heap.size + 1, 0, none⟩) (by simp) _).setCell (p := ⟨w.heap.size + 1, 1, none⟩) (by simp) _⟩
/-- a row whose first j relations have been mirrored -/
def mirL (L : Nat → Nat) (j : Nat) : Nat → Nat := fun x => if x < j then mirN (L x) else L x
theorem mirL_at (L : Nat → Nat) (j : Nat) : mirL L j j = L j := by simp [mirL]
theorem mirL_put (L : Nat → Nat) (j : Nat) : updL (mirL L j) j (mirN (L j)) = mirL L (j + 1) := by
  funext x
  unfold updL mirL
  by_cases e : x = j
  · subst e; simp
  · rw [if_neg e]
    by_cases h : x < j
    · rw [if_pos h, if_pos (by omega)]
    · rw [if_neg h, if_neg (by omega)]
theorem mirL_end (L : Nat → Nat) (m x : Nat) (h : x < m) : mirL L m x = mirN (L x) := if_pos h
set_option maxHeartbeats 4000000 in
set_option maxRecDepth 100000 in
theorem sMirrorNet_yes (n : Nat) (R : Nat → Nat → Nat) (hR : OkR n R) (w : World) :
    Calls Tryd.prog 33 #[.agg #[.int .i64 n, .string (netS n R)]] w fun e w' => e = .returned (.tuple #[.agg #[.int .i64 n, .string (netS n (mirR R))], .bool true]) ∧ Below w.heap.size w w' := by
  have HNV := hid (nv_net hR)
  have HOP := hid (l5Open_any n hR.le R hR.lt)
  have h36 : n * n ≤ 36 := Nat.mul_le_mul hR.le hR.le
  have HCT := hid (show catB (mirL (fun x => R (x / n) (x % n)) (n * n)) (n * n) = netS n (mirR R) by
    rw [← catB_net]
    unfold catB
    congr 2
    apply congrArg catD
    apply List.map_congr_left
    intro x hx
    rw [mirL_end _ _ _ (List.mem_range.1 hx)]; rfl)
  have HLT := hid (show ∀ x, R (x / n) (x % n) < 8192 from fun x => hR.lt _ _)
  clear hR
  generalize netS n (mirR R) = t at *
  generalize netS n R = s at *
  obtain ⟨L, hL⟩ : ∃ L : Nat → Nat, L = fun x => R (x / n) (x % n) := ⟨_, rfl⟩
  rw [← hL] at HOP HCT
  have HL := hid (show ∀ x, L x < 8192 from fun x => by rw [hL]; exact HLT.out x)
  clear hL HLT
  generalize n * n = nn at *
  have HK := hid (show Nk ((w.alloc (.cells #[.int .i64 n, .string s] 26)).alloc (.cells #[.int .i64 0, .string ⟨#[]⟩] 26)) (w.heap.size + 1) 0 ⟨#[]⟩ by
    have h := Nk.made (w.alloc (.cells #[.int .i64 n, .string s] 26)) 0 ⟨#[]⟩
    rw [World.size_alloc] at h
    exact h)
  have HKs := hid (nk_alloc (Nk.made w n s) (.cells #[.int .i64 0, .string ⟨#[]⟩] 26))
  have HB := hid (((Below.refl w.heap.size w).alloc (Nat.le_refl _) (.cells #[.int .i64 n, .string s] 26)).alloc (by simp) (.cells #[.int .i64 0, .string ⟨#[]⟩] 26))
  have hz : Hid (((w.alloc (.cells #[.int .i64 n, .string s] 26)).alloc (.cells #[.int .i64 0, .string ⟨#[]⟩] 26)).heap.size = w.heap.size + 1 + 1) := hid (by rw [World.size_alloc, World.size_alloc])
  have HS := AllLt.start w; go_enter Tryd.func33, Tryd.ntmps33
  go_wp2_with fail
  (with_reducible refine (sNetValid_any n s _).mono ?_)
  rintro e w1 ⟨rfl, hb⟩
  rw [HNV.out]
  have HB1 := hid (HB.out.trans (hb.mono HB.out.size))
  have HK1 := hid (HK.out.below hb HK.out.lt)
  have hks := HKs.out.below hb HKs.out.lt
  have hz1 : w.heap.size + 1 + 1 ≤ w1.heap.size := by have := hb.size; have := hz.out; omega
  have s0 := hks.c0
  have s1 := hks.c1
  clear hks hb
  go_wp2_with fail
  (with_reducible refine (HOP.out _).mono ?_)
  rintro e w2 ⟨⟨u, rfl, hown⟩, hb⟩
  have HB2 := hid (HB1.out.trans (hb.mono HB1.out.size))
  have HK2 := hid (HK1.out.below hb HK1.out.lt)
  have hz2 : w.heap.size + 1 + 1 ≤ w2.heap.size := by have := hb.size; omega
  have hw12 : w1.heap.size ≤ w2.heap.size := hb.size
  obtain ⟨ao, n', cap, rfl⟩ : ∃ ao n' cap, u = .slice ao n' cap := by
    rcases hown.2 with ⟨hv, _⟩ | ⟨g, cap, cur, hv, _⟩
    · exact ⟨_, _, _, hv⟩
    · exact ⟨_, _, _, hv⟩
  have hnn : n' = nn := by
    rcases hown.2 with ⟨hv, h0⟩ | ⟨g, cap, cur, hv, _⟩
    · cases hv; exact h0.symm
    · cases hv; rfl
  subst hnn
  have HO := hid (hown.alloc (.cells #[.int .i64 (n : Int), .slice ao n' cap] 73))
  have HTk := hid (Tk.made w2 n (.slice ao n' cap))
  have HK3 := hid (nk_alloc HK2.out (.cells #[.int .i64 (n : Int), .slice ao n' cap] 73))
  have HB3 := hid (HB2.out.alloc HB2.out.size (.cells #[.int .i64 (n : Int), .slice ao n' cap] 73))
  have HAo := hid (show ∀ g, ao = some ⟨g, 0, none⟩ → g < w2.heap.size from fun g hg => by
    rcases hown.2 with ⟨hv, h0⟩ | ⟨g', cap', cur, hv, hB, hg', _⟩
    · cases hv; cases hg
    · cases hv; cases hg; exact (Array.getElem?_eq_some_iff.1 hg').1)
  clear hb hown s0 s1
  go_wp2_with fail
  generalize hw3 : w2.alloc (.cells #[.int .i64 (n : Int), .slice ao n' cap] 73) = w3 at *
  have hz3 : w3.heap.size = w2.heap.size + 1 := by rw [← hw3, World.size_alloc]
  clear hw3
  go_loopw [5] (fun v wr => ∃ j : Nat, j ≤ n' ∧ v = .int .i64 j ∧ Hid (Tk wr w2.heap.size n (.slice ao n' cap)) ∧ Hid (wr.ownsRow (w1.heap.size + 1 + 1 + 1) 3 1 (.slice ao n' cap) n' (rowL (mirL L j) n')) ∧ Hid (Nk wr (w.heap.size + 1) 0 ⟨#[]⟩) ∧ Hid (Below w.heap.size w wr) ∧ Hid (w3.heap.size ≤ wr.heap.size)) (fun v _ => n' - (intOf v).toNat)
  case atStart => exact ⟨0, by omega, rfl, HTk, hid (own_ext HO.out fun x _ => by simp [mirL]), HK3, HB3, hid (Nat.le_refl _)⟩
  case round =>
    obtain ⟨j, hj, rfl, HTr, HOr, HKr, HBr, HZr⟩ := hrel
    clear HS
    obtain ⟨wi, rfl⟩ : ∃ wi : World, wi = wr := ⟨_, rfl⟩
    have t1 := HTr.out.c1
    by_cases hjn : j < n'
    · have hdj : decide ((j : Int) < (n' : Int)) = true := by simp; omega
      have hdk : decide (j < n') = true := by simp; omega
      obtain ⟨g, cap', hv, hgb, hgl, hc, hf⟩ := own_at HOr.out hjn
      cases hv
      rw [mirL_at] at hc
      have hgT := HAo.out g rfl
      have hgne : ¬ g = w2.heap.size := by omega
      have HP := hid (mirL_put L j)
      have HMR := hid (l3Mirror_any (L j) (HL.out j))
      go_wp2_with fail
      go_region_with (first | (go_at_call 68; (with_reducible refine (HMR.out _).mono ?_); rintro e w4 ⟨rfl, hb⟩; have hb : Below wi.heap.size wi w4 := (Below.refl wi.heap.size wi).drew.trans hb; have t5 := (hb.cell (p := ⟨w2.heap.size, 1, none⟩) HTr.out.lt).trans HTr.out.c1; have c5 := (hb.cell (p := ⟨g, j, none⟩) hgl).trans hc; have f5 := (hb.frozen (p := ⟨g, j, none⟩) hgl).trans hf; have HTx := hid (HTr.out.below hb HTr.out.lt); have HOx := hid (own_below' HOr.out hb); have HKx := hid (HKr.out.below hb HKr.out.lt); have HBx := hid (HBr.out.trans (hb.mono HBr.out.size)); have HZx := hid (Nat.le_trans HZr.out hb.size); clear hb) | fail)
      all_goals
        go_wp2_with fail
        go_roundw
        case rel => exact ⟨j + 1, by omega, by go_num, hid (HTx.out.far (p := ⟨g, j, none⟩) (fun e => hgne e.symm) _), hid (by rw [← HP.out]; exact own_put HOx.out j _), hid (HKx.out.far (p := ⟨g, j, none⟩) (show w.heap.size + 1 ≠ g by omega) _), hid (HBx.out.setCell (p := ⟨g, j, none⟩) (show w.heap.size ≤ g by omega) _), hid (by simpa using HZx.out)⟩
        case measure => simp [intOf]; omega
    · obtain rfl : j = n' := by omega
      have hdj : decide ((j : Int) < (j : Int)) = false := by simp
      have t0 := HTr.out.c0
      have HCL := hid (l5Close_any n _ j h36 _ (fun x hx => by rw [mirL_end _ _ _ hx]; exact mirN_lt _) wi (Ts.of_own HOr.out))
      go_wp2_with fail
      (with_reducible refine HCL.out.mono ?_)
      rintro e w4 ⟨rfl, hb⟩
      rw [HCT.out]
      have hk := HKr.out.below hb HKr.out.lt
      have HB4 := hid (HBr.out.trans (hb.mono HBr.out.size))
      have r0 := hk.c0
      have r1 := hk.c1
      have rf0 := hk.fr 0
      have rf1 := hk.fr 1
      clear hk hb
      go_wp2_with fail
      refine bodyPost_ret (by simp [results, Tryd.results33, go_sem, *]; try rfl) rfl ?_
      exact ⟨rfl, (HB4.out.setCell (p := ⟨w.heap.size + 1, 0, none⟩) (by simp) _).setCell (p := ⟨w.heap.size + 1, 1, none⟩) (by simp) _⟩
set_option maxHeartbeats 1000000 in
theorem walk_FnExactMirrorNet (a00 : Int) (a01 : ByteArray) (w : World) (w00 : (Lit.int .i64 a00).wf = true) (w01 : a01.size ≤ maxLen) (hB : TB w) :
    Calls Tryd.prog 10 #[.agg #[.int .i64 a00, .string a01]] w fun e w' => e = .returned (.bool true) ∧ Below w.heap.size w w' := by
  have HT := hid hB
  clear hB w00
  by_cases hs : a01.size ≤ 1048576
  · have h0 : decide ((1048576 : Int) - (a01.size : Int) < 0) = false := by simp; omega
    have h1 : decide ((1048576 : Int) < (a01.size : Int)) = false := by simp; omega
    have HSZ := hid (szNet_on a00 a01 hs)
    clear w01 hs
    rcases nv_cases a00 a01 with h | ⟨n, R, hR, rfl, rfl⟩
    · have HM := hid (sMirrorNet_no a00 a01 h)
      have HI := hid (iMirrorNet_no a00 a01 h)
      clear h
      have HS := AllLt.start w; have hn2 := lt2; have hn3 := lt3; have hn4 := lt4; go_enter Tryd.func10, Tryd.ntmps10
      go_wp2_with (first | (go_at_call 14; (with_reducible refine (HSZ.out _).mono ?_); rintro e w' ⟨rfl, hb⟩; obtain ⟨HB, hz0, hz, hc, hf⟩ := bst (w0 := w) (by go_grown) hb; clear hb; (try simp at hz); (first | ((refine HS.g5 (m := w'.heap.size) ?_ ?_); (focus omega); intro HS) | ((refine HS.g4 (m := w'.heap.size) ?_ ?_); (focus omega); intro HS) | ((refine HS.g3 (m := w'.heap.size) ?_ ?_); (focus omega); intro HS) | ((refine HS.g2 (m := w'.heap.size) ?_ ?_); (focus omega); intro HS) | ((refine HS.g1 (m := w'.heap.size) ?_ ?_); (focus omega); intro HS) | ((refine HS.g0 (m := w'.heap.size) ?_ ?_); (focus omega); intro HS)); have HU := HS; simp only [AllLt] at HU) | (go_at_call 16; (with_reducible refine (toNet_any _ _ _).mono ?_); rintro e w' ⟨rfl, hb⟩; obtain ⟨HB, hz0, hz, hc, hf⟩ := bst (w0 := w) (by go_grown) hb; clear hb; (try simp at hz); (first | ((refine HS.g5 (m := w'.heap.size) ?_ ?_); (focus omega); intro HS) | ((refine HS.g4 (m := w'.heap.size) ?_ ?_); (focus omega); intro HS) | ((refine HS.g3 (m := w'.heap.size) ?_ ?_); (focus omega); intro HS) | ((refine HS.g2 (m := w'.heap.size) ?_ ?_); (focus omega); intro HS) | ((refine HS.g1 (m := w'.heap.size) ?_ ?_); (focus omega); intro HS) | ((refine HS.g0 (m := w'.heap.size) ?_ ?_); (focus omega); intro HS)); have HU := HS; simp only [AllLt] at HU) | (go_at_call 33; (with_reducible refine (HM.out _).mono ?_); rintro e w' ⟨rfl, hb⟩; obtain ⟨HB, hz0, hz, hc, hf⟩ := bst (w0 := w) (by go_grown) hb; clear hb; (try simp at hz); (first | ((refine HS.g5 (m := w'.heap.size) ?_ ?_); (focus omega); intro HS) | ((refine HS.g4 (m := w'.heap.size) ?_ ?_); (focus omega); intro HS) | ((refine HS.g3 (m := w'.heap.size) ?_ ?_); (focus omega); intro HS) | ((refine HS.g2 (m := w'.heap.size) ?_ ?_); (focus omega); intro HS) | ((refine HS.g1 (m := w'.heap.size) ?_ ?_); (focus omega); intro HS) | ((refine HS.g0 (m := w'.heap.size) ?_ ?_); (focus omega); intro HS)); have HU := HS; simp only [AllLt] at HU) | (go_at_call 34; (with_reducible refine (HI.out _ (HT.out.below (by go_grown))).mono ?_); rintro e w' ⟨rfl, hb⟩; obtain ⟨HB, hz0, hz, hc, hf⟩ := bst (w0 := w) (by go_grown) hb; clear hb; (try simp at hz); (first | ((refine HS.g5 (m := w'.heap.size) ?_ ?_); (focus omega); intro HS) | ((refine HS.g4 (m := w'.heap.size) ?_ ?_); (focus omega); intro HS) | ((refine HS.g3 (m := w'.heap.size) ?_ ?_); (focus omega); intro HS) | ((refine HS.g2 (m := w'.heap.size) ?_ ?_); (focus omega); intro HS) | ((refine HS.g1 (m := w'.heap.size) ?_ ?_); (focus omega); intro HS) | ((refine HS.g0 (m := w'.heap.size) ?_ ?_); (focus omega); intro HS)); have HU := HS; simp only [AllLt] at HU) | (go_at_call 22; (with_reducible refine (eqNet_same _ _ _).mono ?_); rintro e w' ⟨rfl, hb⟩; obtain ⟨HB, hz0, hz, hc, hf⟩ := bst (w0 := w) (by go_grown) hb; clear hb; (try simp at hz); (first | ((refine HS.g5 (m := w'.heap.size) ?_ ?_); (focus omega); intro HS) | ((refine HS.g4 (m := w'.heap.size) ?_ ?_); (focus omega); intro HS) | ((refine HS.g3 (m := w'.heap.size) ?_ ?_); (focus omega); intro HS) | ((refine HS.g2 (m := w'.heap.size) ?_ ?_); (focus omega); intro HS) | ((refine HS.g1 (m := w'.heap.size) ?_ ?_); (focus omega); intro HS) | ((refine HS.g0 (m := w'.heap.size) ?_ ?_); (focus omega); intro HS)); have HU := HS; simp only [AllLt] at HU))
      go_ret
      exact ⟨rfl, by (repeat' (first | (with_reducible exact Below.refl _ _) | (with_reducible refine Below.setCell ?_ ?_ _) | (with_reducible refine below_drewN' ?_ _) | (with_reducible refine below_drew' ?_) | (with_reducible refine Below.alloc ?_ ?_ _) | (with_reducible assumption) | go_size))⟩
    · have HM := hid (sMirrorNet_yes n R hR)
      have HI := hid (iMirrorNet_yes n R hR)
      clear hR
      have HS := AllLt.start w; have hn2 := lt2; have hn3 := lt3; have hn4 := lt4; go_enter Tryd.func10, Tryd.ntmps10
      go_wp2_with (first | (go_at_call 14; (with_reducible refine (HSZ.out _).mono ?_); rintro e w' ⟨rfl, hb⟩; obtain ⟨HB, hz0, hz, hc, hf⟩ := bst (w0 := w) (by go_grown) hb; clear hb; (try simp at hz); (first | ((refine HS.g5 (m := w'.heap.size) ?_ ?_); (focus omega); intro HS) | ((refine HS.g4 (m := w'.heap.size) ?_ ?_); (focus omega); intro HS) | ((refine HS.g3 (m := w'.heap.size) ?_ ?_); (focus omega); intro HS) | ((refine HS.g2 (m := w'.heap.size) ?_ ?_); (focus omega); intro HS) | ((refine HS.g1 (m := w'.heap.size) ?_ ?_); (focus omega); intro HS) | ((refine HS.g0 (m := w'.heap.size) ?_ ?_); (focus omega); intro HS)); have HU := HS; simp only [AllLt] at HU) | (go_at_call 16; (with_reducible refine (toNet_any _ _ _).mono ?_); rintro e w' ⟨rfl, hb⟩; obtain ⟨HB, hz0, hz, hc, hf⟩ := bst (w0 := w) (by go_grown) hb; clear hb; (try simp at hz); (first | ((refine HS.g5 (m := w'.heap.size) ?_ ?_); (focus omega); intro HS) | ((refine HS.g4 (m := w'.heap.size) ?_ ?_); (focus omega); intro HS) | ((refine HS.g3 (m := w'.heap.size) ?_ ?_); (focus omega); intro HS) | ((refine HS.g2 (m := w'.heap.size) ?_ ?_); (focus omega); intro HS) | ((refine HS.g1 (m := w'.heap.size) ?_ ?_); (focus omega); intro HS) | ((refine HS.g0 (m := w'.heap.size) ?_ ?_); (focus omega); intro HS)); have HU := HS; simp only [AllLt] at HU) | (go_at_call 33; (with_reducible refine (HM.out _).mono ?_); rintro e w' ⟨rfl, hb⟩; obtain ⟨HB, hz0, hz, hc, hf⟩ := bst (w0 := w) (by go_grown) hb; clear hb; (try simp at hz); (first | ((refine HS.g5 (m := w'.heap.size) ?_ ?_); (focus omega); intro HS) | ((refine HS.g4 (m := w'.heap.size) ?_ ?_); (focus omega); intro HS) | ((refine HS.g3 (m := w'.heap.size) ?_ ?_); (focus omega); intro HS) | ((refine HS.g2 (m := w'.heap.size) ?_ ?_); (focus omega); intro HS) | ((refine HS.g1 (m := w'.heap.size) ?_ ?_); (focus omega); intro HS) | ((refine HS.g0 (m := w'.heap.size) ?_ ?_); (focus omega); intro HS)); have HU := HS; simp only [AllLt] at HU) | (go_at_call 34; (with_reducible refine (HI.out _ (HT.out.below (by go_grown))).mono ?_); rintro e w' ⟨rfl, hb⟩; obtain ⟨HB, hz0, hz, hc, hf⟩ := bst (w0 := w) (by go_grown) hb; clear hb; (try simp at hz); (first | ((refine HS.g5 (m := w'.heap.size) ?_ ?_); (focus omega); intro HS) | ((refine HS.g4 (m := w'.heap.size) ?_ ?_); (focus omega); intro HS) | ((refine HS.g3 (m := w'.heap.size) ?_ ?_); (focus omega); intro HS) | ((refine HS.g2 (m := w'.heap.size) ?_ ?_); (focus omega); intro HS) | ((refine HS.g1 (m := w'.heap.size) ?_ ?_); (focus omega); intro HS) | ((refine HS.g0 (m := w'.heap.size) ?_ ?_); (focus omega); intro HS)); have HU := HS; simp only [AllLt] at HU) | (go_at_call 22; (with_reducible refine (eqNet_same _ _ _).mono ?_); rintro e w' ⟨rfl, hb⟩; obtain ⟨HB, hz0, hz, hc, hf⟩ := bst (w0 := w) (by go_grown) hb; clear hb; (try simp at hz); (first | ((refine HS.g5 (m := w'.heap.size) ?_ ?_); (focus omega); intro HS) | ((refine HS.g4 (m := w'.heap.size) ?_ ?_); (focus omega); intro HS) | ((refine HS.g3 (m := w'.heap.size) ?_ ?_); (focus omega); intro HS) | ((refine HS.g2 (m := w'.heap.size) ?_ ?_); (focus omega); intro HS) | ((refine HS.g1 (m := w'.heap.size) ?_ ?_); (focus omega); intro HS) | ((refine HS.g0 (m := w'.heap.size) ?_ ?_); (focus omega); intro HS)); have HU := HS; simp only [AllLt] at HU))
      go_ret
      exact ⟨rfl, by (repeat' (first | (with_reducible exact Below.refl _ _) | (with_reducible refine Below.setCell ?_ ?_ _) | (with_reducible refine below_drewN' ?_ _) | (with_reducible refine below_drew' ?_) | (with_reducible refine Below.alloc ?_ ?_ _) | (with_reducible assumption) | go_size))⟩
  · have HS := AllLt.start w; have hn2 := lt2; have hn3 := lt3; have hn4 := lt4; go_enter Tryd.func10, Tryd.ntmps10
    go_wp2_with (first | (go_at_call 14; (with_reducible refine (szNet_off a00 a01 hs w01 _).mono ?_); rintro e w' ⟨rfl, hb⟩; obtain ⟨HB, hz0, hz, hc, hf⟩ := bst (w0 := w) (by go_grown) hb; clear hb; (try simp at hz); (first | ((refine HS.g5 (m := w'.heap.size) ?_ ?_); (focus omega); intro HS) | ((refine HS.g4 (m := w'.heap.size) ?_ ?_); (focus omega); intro HS) | ((refine HS.g3 (m := w'.heap.size) ?_ ?_); (focus omega); intro HS) | ((refine HS.g2 (m := w'.heap.size) ?_ ?_); (focus omega); intro HS) | ((refine HS.g1 (m := w'.heap.size) ?_ ?_); (focus omega); intro HS) | ((refine HS.g0 (m := w'.heap.size) ?_ ?_); (focus omega); intro HS)); have HU := HS; simp only [AllLt] at HU))
    go_ret
    exact ⟨rfl, by (repeat' (first | (with_reducible exact Below.refl _ _) | (with_reducible refine Below.setCell ?_ ?_ _) | (with_reducible refine below_drewN' ?_ _) | (with_reducible refine below_drew' ?_) | (with_reducible refine Below.alloc ?_ ?_ _) | (with_reducible assumption) | go_size))⟩
end Go.Proofs.YtdamnhigdaklcaaDoor.C
