/- Networks of points with fewer orders of two points: the program, the model, the exact law. -/
import Derived.Test.YtmdgkhebefnfeaaDoorPntX
import Derived.Test.YtmdgkhebefnfeaaDoorPntU
namespace Go.Proofs.YtmdgkhebefnfeaaDoor.C
open Go.RowKit
set_option linter.unusedVariables false
set_option linter.unusedSimpArgs false
theorem ixq0 (a : Option Addr) (c : Nat) (v : Int) (w : World) : Calls Tryd.prog 151 #[.slice a 0 c, .int .i64 v] w fun e w' => e = .returned (.int .i64 (-1)) ∧ w = w' := by
  have HS := AllLt.start w; go_enter Tryd.func151, Tryd.ntmps151
  go_wp2
  go_rounds 1
  go_ret
  exact ⟨rfl, rfl⟩
theorem ixq1_yes (b c : Nat) (v : Int) (w : World) (h : w.cell? ⟨b, 0, none⟩ = some (.int .i64 v)) : Calls Tryd.prog 151 #[.slice (some ⟨b, 0, none⟩) 1 c, .int .i64 v] w fun e w' => e = .returned (.int .i64 0) ∧ w = w' := by
  have HS := AllLt.start w; go_enter Tryd.func151, Tryd.ntmps151
  go_wp2
  go_rounds 2
  go_ret
  exact ⟨rfl, rfl⟩
theorem ixq1_no (b c : Nat) (v x : Int) (w : World) (h : w.cell? ⟨b, 0, none⟩ = some (.int .i64 x)) (hx : (v == x) = false) : Calls Tryd.prog 151 #[.slice (some ⟨b, 0, none⟩) 1 c, .int .i64 v] w fun e w' => e = .returned (.int .i64 (-1)) ∧ w = w' := by
  have HS := AllLt.start w; go_enter Tryd.func151, Tryd.ntmps151
  go_wp2
  go_rounds 2
  go_ret
  exact ⟨rfl, rfl⟩
theorem cnq0 (a : Option Addr) (c : Nat) (v : Int) (w : World) : Calls Tryd.prog 108 #[.slice a 0 c, .int .i64 v] w fun e w' => e = .returned (.bool false) ∧ w = w' := by
  have HS := AllLt.start w; go_enter Tryd.func108, Tryd.ntmps108
  go_wp2_with (first | (go_at_call 151; (with_reducible refine (ixq0 _ _ _ _).mono ?_); rintro e w' ⟨rfl, rfl⟩))
  go_ret
  exact ⟨rfl, rfl⟩
theorem cnq1_yes (b c : Nat) (v : Int) (w : World) (h : w.cell? ⟨b, 0, none⟩ = some (.int .i64 v)) : Calls Tryd.prog 108 #[.slice (some ⟨b, 0, none⟩) 1 c, .int .i64 v] w fun e w' => e = .returned (.bool true) ∧ w = w' := by
  have HS := AllLt.start w; go_enter Tryd.func108, Tryd.ntmps108
  go_wp2_with (first | (go_at_call 151; (with_reducible refine (ixq1_yes _ _ _ _ h).mono ?_); rintro e w' ⟨rfl, rfl⟩))
  go_ret
  exact ⟨rfl, rfl⟩
theorem cnq1_no (b c : Nat) (v x : Int) (w : World) (h : w.cell? ⟨b, 0, none⟩ = some (.int .i64 x)) (hx : (v == x) = false) : Calls Tryd.prog 108 #[.slice (some ⟨b, 0, none⟩) 1 c, .int .i64 v] w fun e w' => e = .returned (.bool false) ∧ w = w' := by
  have HS := AllLt.start w; go_enter Tryd.func108, Tryd.ntmps108
  go_wp2_with (first | (go_at_call 151; (with_reducible refine (ixq1_no _ _ _ _ _ h hx).mono ?_); rintro e w' ⟨rfl, rfl⟩))
  go_ret
  exact ⟨rfl, rfl⟩
/-- two numbers are different nodes -/
def difQ (n : Nat) (i k : Int) : Bool := hasQ n i && hasQ n k && !(k == i)
set_option maxHeartbeats 2000000 in
theorem hdq_any (n : Nat) (i k : Int) (b : Nat) (w : World) (c0 : w.cell? ⟨b, 0, none⟩ = some (.int .i64 i)) (c1 : w.cell? ⟨b, 1, none⟩ = some (.int .i64 k)) (hb : b < w.heap.size) :
    Calls Tryd.prog 59 #[.agg #[.int .i64 n], .slice (some ⟨b, 0, none⟩) 2 2] w fun e w' => e = .returned (.bool (difQ n i k)) ∧ Below w.heap.size w w' := by
  have HC0 := hid c0
  have HC1 := hid c1
  clear c0 c1
  have HS := AllLt.start w; go_enter Tryd.func59, Tryd.ntmps59
  go_wp2_with fail
  go_loopw [9] (fun v wr => ∃ j : Nat, j ≤ 2 ∧ v = .int .i64 j ∧ Hid (1 ≤ j → hasQ n i = true) ∧ Hid (2 ≤ j → difQ n i k = true) ∧ Hid (Below (w.heap.size + 1) (w.alloc (.cells #[.int .i64 (n : Int)] 62)) wr)) (fun v _ => 2 - (intOf v).toNat)
  case atStart => exact ⟨0, by omega, rfl, hid (fun h => by omega), hid (fun h => by omega), hid (Below.refl _ _)⟩
  case round =>
    obtain ⟨j, hj, rfl, HI, HD, HX⟩ := hrel
    clear HS
    obtain ⟨wi, rfl⟩ : ∃ wi : World, wi = wr := ⟨_, rfl⟩
    have HBw := hid (((Below.refl w.heap.size w).alloc (Nat.le_refl _) (.cells #[.int .i64 (n : Int)] 62)).trans (HX.out.mono (by omega)))
    have hA := (HX.out.cell (p := ⟨w.heap.size, 0, none⟩) (show w.heap.size < w.heap.size + 1 by omega)).trans (show (w.alloc (.cells #[.int .i64 (n : Int)] 62)).cell? ⟨w.heap.size, 0, none⟩ = some (.int .i64 (n : Int)) by simp [go_sem])
    have q0 := (HBw.out.cell (p := ⟨b, 0, none⟩) hb).trans HC0.out
    have q1 := (HBw.out.cell (p := ⟨b, 1, none⟩) hb).trans HC1.out
    have hbw : b < wi.heap.size := Nat.lt_of_lt_of_le hb HBw.out.size
    have hj3 : j = 0 ∨ j = 1 ∨ j = 2 := by omega
    rcases hj3 with rfl | rfl | rfl
    · cases hi : hasQ n i
      · have HQ := hid hi
        have HR := hid (show difQ n i k = false by simp [difQ, hi])
        clear hi
        go_wp2_with (first | (go_at_call 54; (with_reducible refine (nhq_any n i _).mono ?_); rintro e w4 ⟨rfl, hb4⟩; rw [HQ.out]))
        go_ret
        exact ⟨ret_bool HR.out.symm, HBw.out.trans (hb4.mono HBw.out.size)⟩
      · have HQ := hid hi
        clear hi
        go_wp2_with (first | (go_at_call 54; (with_reducible refine (nhq_any n i _).mono ?_); rintro e w4 ⟨rfl, hb4⟩; rw [HQ.out]) | (go_at_call 108; (with_reducible refine (cnq0 _ _ _ _).mono ?_); rintro e w' ⟨rfl, rfl⟩))
        go_roundw
        case rel => exact ⟨1, by omega, by go_num, hid (by first | trivial | exact fun _ => HQ.out), hid (fun h => by omega), hid (HX.out.trans (hb4.mono (by have := HX.out.size; simpa using this)))⟩
        case measure => simp [intOf]
    · have hi := HI.out (by omega)
      cases hk : hasQ n k
      · have HQ := hid hk
        have HR := hid (show difQ n i k = false by simp [difQ, hk])
        clear hk hi
        go_wp2_with (first | (go_at_call 54; (with_reducible refine (nhq_any n k _).mono ?_); rintro e w4 ⟨rfl, hb4⟩; rw [HQ.out]))
        go_ret
        exact ⟨ret_bool HR.out.symm, HBw.out.trans (hb4.mono HBw.out.size)⟩
      · have HQ := hid hk
        cases hik : (k == i)
        · have HR := hid (show difQ n i k = true by simp only [difQ, hi, hk, hik]; rfl)
          have HE := hid hik
          clear hk hi hik
          go_wp2_with (first | (go_at_call 54; (with_reducible refine (nhq_any n k _).mono ?_); rintro e w4 ⟨rfl, hb4⟩; rw [HQ.out]; have q4 := (hb4.cell (p := ⟨b, 0, none⟩) hbw).trans q0) | (go_at_call 108; (with_reducible refine (cnq1_no _ _ _ _ _ q4 HE.out).mono ?_); rintro e w' ⟨rfl, rfl⟩))
          go_roundw
          case rel => exact ⟨2, by omega, by go_num, hid (by first | trivial | exact fun h => HI.out (by omega)), hid (by first | trivial | exact fun _ => HR.out), hid (HX.out.trans (hb4.mono (by have := HX.out.size; simpa using this)))⟩
          case measure => simp [intOf]
        · have HR := hid (show difQ n i k = false by simp only [difQ, hi, hk, hik]; rfl)
          obtain rfl : k = i := by simpa using hik
          clear hk hi hik
          go_wp2_with (first | (go_at_call 54; (with_reducible refine (nhq_any n k _).mono ?_); rintro e w4 ⟨rfl, hb4⟩; rw [HQ.out]; have q4 := (hb4.cell (p := ⟨b, 0, none⟩) hbw).trans q0) | (go_at_call 108; (with_reducible refine (cnq1_yes _ _ _ _ q4).mono ?_); rintro e w' ⟨rfl, rfl⟩))
          go_ret
          exact ⟨ret_bool HR.out.symm, HBw.out.trans (hb4.mono HBw.out.size)⟩
    · have HR := hid (HD.out (by omega))
      go_wp2_with fail
      go_ret
      exact ⟨ret_bool HR.out.symm, HBw.out⟩
theorem difQ_in {n i k : Nat} (hi : i < n) (hk : k < n) (h : i ≠ k) : difQ n i k = true := by
  unfold difQ; rw [hasQ_in hi, hasQ_in hk]; simp; omega
theorem difQ_out {n : Nat} {i k : Int} (h : difQ n i k = true) : ∃ a b : Nat, a < n ∧ b < n ∧ a ≠ b ∧ i = a ∧ k = b := by
  unfold difQ at h
  rw [Bool.and_eq_true, Bool.and_eq_true] at h
  obtain ⟨a, ha, rfl⟩ := (hasQ_cases n i).resolve_left (fun e => by rw [e] at h; simp at h)
  obtain ⟨b, hb, rfl⟩ := (hasQ_cases n k).resolve_left (fun e => by rw [e] at h; simp at h)
  refine ⟨a, b, ha, hb, ?_, rfl, rfl⟩
  rintro rfl
  simp at h
theorem and64 : ∀ a b : Fin 8, bits .and .i64 ((a.val : Nat) : Int) ((b.val : Nat) : Int) = (((a.val &&& b.val : Nat)) : Int) := by decide +kernel
theorem and_nat {a b : Nat} (ha : a < 8) (hb : b < 8) : bits .and .i64 (a : Int) (b : Int) = ((a &&& b : Nat) : Int) := and64 ⟨a, ha⟩ ⟨b, hb⟩
/-- the network with fewer orders of two points, and whether there is one -/
noncomputable def limR (z : Int) (s : ByteArray) (i k r : Int) : Int × ByteArray × Bool :=
  if PV z s && difQ z.toNat i k && pv r then (z, pntS z.toNat (putQ (pmx z.toNat s) i.toNat k.toNat (pmx z.toNat s i.toNat k.toNat &&& r.toNat)), true) else (0, ⟨#[]⟩, false)
theorem lim_no {z : Int} {s : ByteArray} {i k r : Int} (h : (PV z s && difQ z.toNat i k && pv r) = false) : limR z s i k r = (0, ⟨#[]⟩, false) := by unfold limR; rw [h]; rfl
theorem lim_yes {n : Nat} {N : Nat → Nat → Nat} (hN : OkP n N) {i k m : Nat} (hi : i < n) (hk : k < n) (hik : i ≠ k) (hm : m < 8) : limR n (pntS n N) i k m = ((n : Int), pntS n (putQ N i k (N i k &&& m)), true) := by
  have h : (PV n (pntS n N) && difQ (n : Int).toNat i k && pv m) = true := by
    rw [PV_pnt hN, Int.toNat_natCast, difQ_in hi hk hik, pv_nat hm]; rfl
  unfold limR
  rw [h]
  have e : pntS n (putQ (pmx n (pntS n N)) i k (pmx n (pntS n N) i k &&& m)) = pntS n (putQ N i k (N i k &&& m)) := by
    refine pntS_congr fun a b ha hb => ?_
    unfold putQ
    rw [pmx_pnt hN hi hk, pmx_pnt hN ha hb]
  simp only [if_true, Int.toNat_natCast, e]
theorem ret_lim {a b : Int} {s t : ByteArray} {x y : Bool} {p : Int × ByteArray × Bool} (h : p = (b, t, y)) (h1 : a = b) (h2 : s = t) (h3 : x = y) : Ending.returned (.tuple #[.agg #[.int .i64 a, .string s], .bool x]) = .returned (.tuple #[.agg #[.int .i64 p.1, .string p.2.1], .bool p.2.2]) := by
  rw [h, h1, h2, h3]
theorem put_row9 {n : Nat} {N : Nat → Nat → Nat} {i k r : Nat} (hi : i < n) (hk : k < n) (hne : i ≠ k) {x : Nat} (hx : x < n * n) :
    upL9 (upL9 (flP n N) (i * n + k) r) (k * n + i) (tpn r) x = flP n (putQ N i k r) x := by
  have h1 := pat_div (i := i) hk
  have h2 := pat_div (i := k) hi
  have h3 := (div_lt' hx).2.2
  have E1 : (x / n = k ∧ x % n = i) ↔ x = k * n + i := ⟨fun h => by rw [← h3, h.1, h.2], fun h => by rw [h]; exact h2⟩
  have E2 : (x / n = i ∧ x % n = k) ↔ x = i * n + k := ⟨fun h => by rw [← h3, h.1, h.2], fun h => by rw [h]; exact h1⟩
  unfold upL9 flP putQ
  simp only [E1, E2]
  by_cases e1 : x = k * n + i
  · have e2 : ¬ x = i * n + k := by
      intro e2
      have g1 := E1.2 e1
      have g2 := E2.2 e2
      omega
    rw [if_pos e1, if_neg e2, if_pos e1]
  · rw [if_neg e1, if_neg e1]
set_option maxHeartbeats 4000000 in
set_option maxRecDepth 100000 in
theorem iLimitOrder_any (z : Int) (s : ByteArray) (i k r : Int) (w : World) (hT : TO w) :
    Calls Tryd.prog 22 #[.agg #[.int .i64 z, .string s], .int .i64 i, .int .i64 k, .int .i64 r] w fun e w' => e = .returned (.tuple #[.agg #[.int .i64 (limR z s i k r).1, .string (limR z s i k r).2.1], .bool (limR z s i k r).2.2]) ∧ Below w.heap.size w w' := by
  have HT := hid (hT.below (((Below.refl w.heap.size w).alloc (Nat.le_refl _) (.cells #[.int .i64 z, .string s] 26)).alloc (by simp) (.cells #[.int .i64 0, .string ⟨#[]⟩] 26)))
  clear hT
  rcases PV_cases z s with h | ⟨n, N, hN, rfl, rfl⟩
  · have HC := hid (pof_no z s h _ HT.out)
    have HV := hid (lim_no (z := z) (s := s) (i := i) (k := k) (r := r) (by simp [h]))
    clear h
    have HS := AllLt.start w; have hn2 := lt2; have hn3 := lt3; have hn4 := lt4; go_enter Tryd.func22, Tryd.ntmps22
    go_wp2_with (first | (go_at_call 52; (with_reducible refine (HC.out).mono ?_); rintro e w' ⟨rfl, hb⟩; obtain ⟨HB, hz0, hz, hc, hf⟩ := bst (w0 := w) (by go_grown) hb; clear hb; (try simp at hz); (first | ((refine HS.g5 (m := w'.heap.size) ?_ ?_); (focus omega); intro HS) | ((refine HS.g4 (m := w'.heap.size) ?_ ?_); (focus omega); intro HS) | ((refine HS.g3 (m := w'.heap.size) ?_ ?_); (focus omega); intro HS) | ((refine HS.g2 (m := w'.heap.size) ?_ ?_); (focus omega); intro HS) | ((refine HS.g1 (m := w'.heap.size) ?_ ?_); (focus omega); intro HS) | ((refine HS.g0 (m := w'.heap.size) ?_ ?_); (focus omega); intro HS)); have HU := HS; simp only [AllLt] at HU))
    refine bodyPost_ret (by simp [results, Tryd.results22, go_sem, *]; try rfl) rfl ?_
    exact ⟨ret_lim HV.out rfl rfl rfl, by (repeat' (first | (with_reducible exact Below.refl _ _) | (with_reducible refine Below.setCell ?_ ?_ _) | (with_reducible refine below_drewN' ?_ _) | (with_reducible refine below_drew' ?_) | (with_reducible refine Below.alloc ?_ ?_ _) | (with_reducible assumption) | go_size))⟩
  · have HC := hid (pof_yes n N hN _ HT.out)
    have HB0 := hid (((Below.refl w.heap.size w).alloc (Nat.le_refl _) (.cells #[.int .i64 (n : Int), .string (pntS n N)] 26)).alloc (by simp) (.cells #[.int .i64 0, .string ⟨#[]⟩] 26))
    have HR0 := hid (show Pk ((w.alloc (.cells #[.int .i64 (n : Int), .string (pntS n N)] 26)).alloc (.cells #[.int .i64 0, .string ⟨#[]⟩] 26)) (w.heap.size + 1) 0 ⟨#[]⟩ by
      have := Pk.made (w.alloc (.cells #[.int .i64 (n : Int), .string (pntS n N)] 26)) 0 ⟨#[]⟩
      rw [World.size_alloc] at this
      exact this)
    have HOK := hid hN
    have HNO := hid (fun (i k r : Int) (h : (difQ n i k && pv r) = false) => lim_no (z := n) (s := pntS n N) (i := i) (k := k) (r := r) (by rw [PV_pnt hN, Int.toNat_natCast]; simpa using h))
    have HYES := hid (fun (i k m : Nat) (hi : i < n) (hk : k < n) (hik : i ≠ k) (hm : m < 8) => lim_yes hN hi hk hik hm)
    generalize pntS n N = s at *
    have HS := AllLt.start w; go_enter Tryd.func22, Tryd.ntmps22
    go_upto_region 1 with fail
    generalize hw0 : (w.alloc (.cells #[.int .i64 (n : Int), .string s] 26)).alloc (.cells #[.int .i64 0, .string ⟨#[]⟩] 26) = w0 at *
    have HK0 := hid (show Pk w0 w.heap.size n s by rw [← hw0]; exact (Below.heap_alloc _ _ _ (by simp)).trans (Pk.made w n s))
    have hs0 : Hid (w0.heap.size = w.heap.size + 1 + 1) := hid (by rw [← hw0, World.size_alloc, World.size_alloc])
    clear hw0
    have q0 := HK0.out.c0
    have q1 := HK0.out.c1
    go_wp2_with fail
    (with_reducible refine HC.out.mono ?_)
    rintro e w1 ⟨⟨g, rfl, hg, hp⟩, hb⟩
    have HG := hid hg
    have HR1 := hid (HR0.out.below hb HR0.out.lt)
    have HB1 := hid (HB0.out.trans (hb.mono HB0.out.size))
    have HT1 := hid (HT.out.below hb)
    have HBB := hid ((Below.refl w1.heap.size w1).alloc (Nat.le_refl _) (.cells #[.int .i64 (n : Int), .map (some g)] 65))
    have HP2 := hid (PB.made w1 n g)
    have HN2 := hid (hp.below HBB.out)
    have HGL := hid hp.lt
    have HT2 := hid (HT1.out.below HBB.out)
    have HR2 := hid (HR1.out.below HBB.out HR1.out.lt)
    have HB2 := hid (HB1.out.trans (HBB.out.mono HB1.out.size))
    clear hb hp hg q0 q1
    go_upto_region 2 with fail
    generalize w1.alloc (.cells #[.int .i64 (n : Int), .map (some g)] 65) = w2 at *
    have p0 := HP2.out.c0
    have HDF := hid (hdq_any n i k w2.heap.size)
    cases hd : difQ n i k
    · have HD := hid hd
      have HV := hid (HNO.out i k r (by rw [hd]; rfl))
      clear hd
      have z0 := HR2.out.c0
      have z1 := HR2.out.c1
      have zf0 := HR2.out.fr 0
      have zf1 := HR2.out.fr 1
      have zl := HR2.out.lt
      go_wp2_with fail
      (with_reducible refine (HDF.out _ (by simp [go_sem]) (by simp [go_sem]) (by simp)).mono ?_)
      rintro e w3 ⟨rfl, hb⟩
      rw [HD.out]
      have hb : Below w2.heap.size w2 w3 := ((Below.refl w2.heap.size w2).alloc (Nat.le_refl _) _).trans (hb.mono (by simp))
      have HR3 := hid (HR2.out.below hb HR2.out.lt)
      have HB3 := hid (HB2.out.trans (hb.mono HB2.out.size))
      clear hb z0 z1 zf0 zf1 zl p0
      have z0 := HR3.out.c0
      have z1 := HR3.out.c1
      have zf0 := HR3.out.fr 0
      have zf1 := HR3.out.fr 1
      go_wp2_with fail
      refine bodyPost_ret (by simp [results, Tryd.results22, go_sem, *]; try rfl) rfl ?_
      exact ⟨ret_lim HV.out rfl rfl rfl, (HB3.out.setCell (p := ⟨w.heap.size + 1, 0, none⟩) (by simp) _).setCell (p := ⟨w.heap.size + 1, 1, none⟩) (by simp) _⟩
    · have HD := hid hd
      obtain ⟨i, k, hi, hk, hik, rfl, rfl⟩ := difQ_out hd
      cases hr : pv r
      all_goals
        go_wp2_with fail
        (with_reducible refine (HDF.out _ (by simp [go_sem]) (by simp [go_sem]) (by simp)).mono ?_)
        rintro e w3 ⟨rfl, hb⟩
        rw [HD.out]
        have hb : Below w2.heap.size w2 w3 := ((Below.refl w2.heap.size w2).alloc (Nat.le_refl _) _).trans (hb.mono (by simp))
        have HR3 := hid (HR2.out.below hb HR2.out.lt)
        have HB3 := hid (HB2.out.trans (hb.mono HB2.out.size))
        have HP3 := hid (HP2.out.below hb)
        have HN3 := hid (HN2.out.below hb)
        have HT3 := hid (HT2.out.below hb)
        have HG3 := hid (show g < w3.heap.size by have := HGL.out; have := HP2.out.lt; have := hb.size; omega)
        clear hb p0
      · have HV := hid (HNO.out i k r (by rw [hr]; simp))
        have HQ := hid hr
        clear hr hd
        have z0 := HR3.out.c0
        have z1 := HR3.out.c1
        have zf0 := HR3.out.fr 0
        have zf1 := HR3.out.fr 1
        go_wp2_with (first | (go_at_call 60; (with_reducible refine (iPointValid_any _ _).mono ?_); rintro e w' ⟨rfl, rfl⟩; rw [HQ.out]))
        refine bodyPost_ret (by simp [results, Tryd.results22, go_sem, *]; try rfl) rfl ?_
        exact ⟨ret_lim HV.out rfl rfl rfl, (HB3.out.setCell (p := ⟨w.heap.size + 1, 0, none⟩) (by simp) _).setCell (p := ⟨w.heap.size + 1, 1, none⟩) (by simp) _⟩
      · have HQ := hid hr
        obtain ⟨m, hm, rfl⟩ : ∃ m : Nat, m < 8 ∧ r = (m : Int) := by
          have := (pv_iff r).1 hr
          exact ⟨r.toNat, by omega, by omega⟩
        have HV := hid (HYES.out i k m hi hk hik hm)
        clear hr hd
        have p0 := HP3.out.c0
        have p1 := HP3.out.c1
        have n8 := HOK.out.lt i k hi hk
        have han := and_nat n8 hm
        have ha8 := and_lt8 n8 hm
        have hbl := HP3.out.lt
        have HBG := hid (show w1.heap.size ≠ g from by have := HGL.out; omega)
        go_wp2_with (first | (go_at_call 60; (with_reducible refine (iPointValid_any _ _).mono ?_); rintro e w' ⟨rfl, rfl⟩; rw [HQ.out]))
        go_region_held3 (fun wx => wx.cell? ⟨w1.heap.size, 0, none⟩ = some (.int .i64 (n : Int)) ∧ wx.cell? ⟨w1.heap.size, 1, none⟩ = some (.map (some g))) (first | exact ⟨p0, p1⟩ | exact ⟨by rw [HX.cell (p := ⟨w1.heap.size, 0, none⟩) hbl]; exact p0, by rw [HX.cell (p := ⟨w1.heap.size, 1, none⟩) hbl]; exact p1⟩ | exact ⟨HPW.out.c0, HPW.out.c1⟩)
          (first
             | (go_at_call 55; (with_reducible refine (pset_any g n N HOK.out i k hi hk _ (HN3.out.below (by go_grown)) (HT3.out.below (by go_grown))).mono ?_); rintro e w5 ⟨rfl, hb'⟩; obtain ⟨HX, hz0', hz', hc', hf'⟩ := bst (w0 := w3) (by go_grown) hb'; clear hb' hf' hc' hz' hz0')
             | (go_at_call 61; (with_reducible refine (pput_any g n N i k (N i k &&& m) (by have := HOK.out.le; omega) (by have := HOK.out.le; omega) hik ha8 _ (HN3.out.below (by go_grown)) (HT3.out.below (by go_grown))).mono ?_); rintro e w6 ⟨rfl, hn6, hw6⟩; have HN6 := hid hn6; have HW6 := hid ((Wr.of_below (q := g) HX).trans hw6); have HPW := hid (HP3.out.wr HW6.out HBG.out); clear hn6 hw6) | fail)
        all_goals
          have HT6 := hid (show TO w6 from by
            obtain ⟨t, fr, hh⟩ := HT3.out
            exact ⟨t, fr, (HW6.out.block _ (Tb.lt HT3.out) (by have := Tb.lt HT.out; have := HG.out; omega)).trans hh⟩)
          have HR6 := hid (HR3.out.wr HW6.out (by have := HG.out; have := hs0.out; omega))
          have HB6 := hid (HB3.out.trans (HW6.out.below (by have := HG.out; have := hs0.out; omega) HB3.out.size))
          have HO6 := hid (HOK.out.put hi hk hik ha8)
          have y0 := HPW.out.c0
          have y1 := HPW.out.c1
          go_wp2_with fail
          (with_reducible refine (pnet_any n g _ HO6.out _ HN6.out HT6.out).mono ?_)
          rintro e w7 ⟨rfl, hb⟩
          have HR7 := hid (HR6.out.below hb HR6.out.lt)
          have HB7 := hid (HB6.out.trans (hb.mono HB6.out.size))
          clear hb y0 y1 p0 p1
          have z0 := HR7.out.c0
          have z1 := HR7.out.c1
          have zf0 := HR7.out.fr 0
          have zf1 := HR7.out.fr 1
          go_wp2_with fail
          refine bodyPost_ret (by simp [results, Tryd.results22, go_sem, *]; try rfl) rfl ?_
          exact ⟨ret_lim HV.out rfl rfl rfl, (HB7.out.setCell (p := ⟨w.heap.size + 1, 0, none⟩) (by simp) _).setCell (p := ⟨w.heap.size + 1, 1, none⟩) (by simp) _⟩
set_option maxHeartbeats 4000000 in
set_option maxRecDepth 100000 in
theorem sLimitOrder_any (z : Int) (s : ByteArray) (i k r : Int) (w : World) :
    Calls Tryd.prog 21 #[.agg #[.int .i64 z, .string s], .int .i64 i, .int .i64 k, .int .i64 r] w fun e w' => e = .returned (.tuple #[.agg #[.int .i64 (limR z s i k r).1, .string (limR z s i k r).2.1], .bool (limR z s i k r).2.2]) ∧ Below w.heap.size w w' := by
  have HPT := hid (l9Points_any z s i k)
  have HB0 := hid (((Below.refl w.heap.size w).alloc (Nat.le_refl _) (.cells #[.int .i64 z, .string s] 26)).alloc (by simp) (.cells #[.int .i64 0, .string ⟨#[]⟩] 26))
  have HR0 := hid (show Pk ((w.alloc (.cells #[.int .i64 z, .string s] 26)).alloc (.cells #[.int .i64 0, .string ⟨#[]⟩] 26)) (w.heap.size + 1) 0 ⟨#[]⟩ by
    have := Pk.made (w.alloc (.cells #[.int .i64 z, .string s] 26)) 0 ⟨#[]⟩
    rw [World.size_alloc] at this
    exact this)
  have HK0 := hid (show Pk ((w.alloc (.cells #[.int .i64 z, .string s] 26)).alloc (.cells #[.int .i64 0, .string ⟨#[]⟩] 26)) w.heap.size z s from (Below.heap_alloc _ _ _ (by simp)).trans (Pk.made w z s))
  cases hp : pntB z s i k
  · have HQ := hid hp
    have HV := hid (lim_no (z := z) (s := s) (i := i) (k := k) (r := r) (by
      unfold pntB at hp
      unfold difQ
      cases h1 : PV z s
      · rfl
      · rw [h1] at hp
        cases h2 : hasQ z.toNat i
        · simp
        · rw [h2] at hp
          cases h3 : hasQ z.toNat k
          · simp
          · rw [h3] at hp; cases hp))
    clear hp
    have HS := AllLt.start w; go_enter Tryd.func21, Tryd.ntmps21
    go_upto_region 1 with fail
    generalize (w.alloc (.cells #[.int .i64 z, .string s] 26)).alloc (.cells #[.int .i64 0, .string ⟨#[]⟩] 26) = w0 at *
    have q0 := HK0.out.c0
    have q1 := HK0.out.c1
    go_wp2_with fail
    (with_reducible refine (HPT.out _).mono ?_)
    rintro e w1 ⟨rfl, hb⟩
    rw [HQ.out]
    have HR1 := hid (HR0.out.below hb HR0.out.lt)
    have HB1 := hid (HB0.out.trans (hb.mono HB0.out.size))
    clear hb q0 q1
    have z0 := HR1.out.c0
    have z1 := HR1.out.c1
    have zf0 := HR1.out.fr 0
    have zf1 := HR1.out.fr 1
    go_wp2_with fail
    refine bodyPost_ret (by simp [results, Tryd.results21, go_sem, *]; try rfl) rfl ?_
    exact ⟨ret_lim HV.out rfl rfl rfl, (HB1.out.setCell (p := ⟨w.heap.size + 1, 0, none⟩) (by simp) _).setCell (p := ⟨w.heap.size + 1, 1, none⟩) (by simp) _⟩
  · have HQ := hid hp
    obtain ⟨n, N, hN, rfl, rfl⟩ := (PV_cases z s).resolve_left (fun e => by unfold pntB at hp; rw [e] at hp; simp at hp)
    have hii : hasQ n i = true := by
      unfold pntB at hp
      rw [Int.toNat_natCast, Bool.and_eq_true, Bool.and_eq_true] at hp
      exact hp.1.2
    have hkk : hasQ n k = true := by
      unfold pntB at hp
      rw [Int.toNat_natCast, Bool.and_eq_true] at hp
      exact hp.2
    clear hp
    obtain ⟨i, hi, rfl⟩ := (hasQ_cases n i).resolve_left (fun e => by rw [e] at hii; cases hii)
    obtain ⟨k, hk, rfl⟩ := (hasQ_cases n k).resolve_left (fun e => by rw [e] at hkk; cases hkk)
    clear hii hkk
    have HNO := hid (fun (r : Int) (h : (difQ n i k && pv r) = false) => lim_no (z := n) (s := pntS n N) (i := i) (k := k) (r := r) (by rw [PV_pnt hN, Int.toNat_natCast]; simpa using h))
    have HYES := hid (fun (m : Nat) (hik : i ≠ k) (hm : m < 8) => lim_yes hN hi hk hik hm)
    have HOP := hid (l9Open_any n N hN)
    have HOR := hid (fun w => by
      have := sOrderIn_any n (pntS n N) i k w
      rw [ordI_in hN hi hk] at this
      exact this)
    have HOK := hid hN
    have h12 := hN.le
    have HPS := hid (show ∀ M, pntS n M = dgB (flP n M) (n * n) from fun _ => rfl)
    generalize hss : pntS n N = s at *
    clear hss
    have HS := AllLt.start w; go_enter Tryd.func21, Tryd.ntmps21
    go_upto_region 1 with fail
    generalize hw0 : (w.alloc (.cells #[.int .i64 (n : Int), .string s] 26)).alloc (.cells #[.int .i64 0, .string ⟨#[]⟩] 26) = w0 at *
    clear hw0
    have q0 := HK0.out.c0
    have q1 := HK0.out.c1
    go_wp2_with fail
    (with_reducible refine (HPT.out _).mono ?_)
    rintro e w1 ⟨rfl, hb⟩
    rw [HQ.out]
    have HR1 := hid (HR0.out.below hb HR0.out.lt)
    have HB1 := hid (HB0.out.trans (hb.mono HB0.out.size))
    have HK1 := hid (HK0.out.below hb HK0.out.lt)
    clear hb q0 q1
    have z0 := HR1.out.c0
    have z1 := HR1.out.c1
    have zf0 := HR1.out.fr 0
    have zf1 := HR1.out.fr 1
    by_cases hik : i = k
    · have hq : ((i : Int) == (k : Int)) = true := by rw [hik]; simp
      have HV := hid (HNO.out r (by rw [hik]; simp [difQ]))
      clear hik
      go_wp2_with fail
      refine bodyPost_ret (by simp [results, Tryd.results21, go_sem, *]; try rfl) rfl ?_
      exact ⟨ret_lim HV.out rfl rfl rfl, (HB1.out.setCell (p := ⟨w.heap.size + 1, 0, none⟩) (by simp) _).setCell (p := ⟨w.heap.size + 1, 1, none⟩) (by simp) _⟩
    · have hq : ((i : Int) == (k : Int)) = false := by rw [beq_eq_false_iff_ne]; omega
      cases hr : pv r
      · have HV := hid (HNO.out r (by rw [hr]; simp))
        have HQ2 := hid hr
        clear hik hr
        go_wp2_with (first | (go_at_call 50; (with_reducible refine (sPointValid_any _ _).mono ?_); rintro e w' ⟨rfl, rfl⟩; rw [HQ2.out]))
        refine bodyPost_ret (by simp [results, Tryd.results21, go_sem, *]; try rfl) rfl ?_
        exact ⟨ret_lim HV.out rfl rfl rfl, (HB1.out.setCell (p := ⟨w.heap.size + 1, 0, none⟩) (by simp) _).setCell (p := ⟨w.heap.size + 1, 1, none⟩) (by simp) _⟩
      · have HQ2 := hid hr
        obtain ⟨m, hm, rfl⟩ : ∃ m : Nat, m < 8 ∧ r = (m : Int) := by
          have := (pv_iff r).1 hr
          exact ⟨r.toNat, by omega, by omega⟩
        have HV := hid (HYES.out m hik hm)
        clear hr
        have q0 := HK1.out.c0
        have q1 := HK1.out.c1
        have n8 := HOK.out.lt i k hi hk
        have han : bits .and .i64 (m : Int) ((N i k : Nat) : Int) = ((N i k &&& m : Nat) : Int) := by rw [Nat.and_comm]; exact and_nat hm n8
        have ha8 := and_lt8 n8 hm
        have hkl := HK1.out.lt
        have h144 : n * n ≤ 144 := Nat.mul_le_mul h12 h12
        have HPO := hid (HOK.out.put hi hk hik ha8)
        have HL8 := hid (show ∀ x, x < n * n → flP n (putQ N i k (N i k &&& m)) x < 8 from fun x hx => HPO.out.lt _ _ (div_lt' hx).1 (div_lt' hx).2.1)
        go_wp2_with (first | (go_at_call 50; (with_reducible refine (sPointValid_any _ _).mono ?_); rintro e w' ⟨rfl, rfl⟩; rw [HQ2.out]))
        go_region_held3 (fun wx => wx.cell? ⟨w.heap.size, 0, none⟩ = some (.int .i64 (n : Int)) ∧ wx.cell? ⟨w.heap.size, 1, none⟩ = some (.string s)) (first | exact ⟨q0, q1⟩ | exact ⟨by rw [HX.cell (p := ⟨w.heap.size, 0, none⟩) hkl]; exact q0, by rw [HX.cell (p := ⟨w.heap.size, 1, none⟩) hkl]; exact q1⟩ | exact ⟨(HKQ.out _ _).c0, (HKQ.out _ _).c1⟩)
          (first
             | (go_at_call 58; (with_reducible refine (HOP.out _).mono ?_); rintro e w5 ⟨⟨u, rfl, hown⟩, hb'⟩; obtain ⟨HX, hz0', hz', hc', hf'⟩ := bst (w0 := w1) (by go_grown) hb'; have HO5 := hid hown; clear hown hb' hf' hc' hz' hz0')
             | (go_at_call 19; (with_reducible refine (HOR.out _).mono ?_); rintro e w6 ⟨rfl, hb'⟩; have HO6 := hid (own_bel HO5.out hb'); obtain ⟨HX, hz0', hz', hc', hf'⟩ := bst (w0 := w1) (by go_grown) hb'; clear hb' hf' hc' hz' hz0')
             | (go_at_call 57; (with_reducible refine (l9Put_any n h12 _ i k _ hi hk ha8 _ _ _ HO6.out).mono ?_); rintro e w7 ⟨⟨u2, rfl, hown⟩, hb'⟩; have HO7 := hid (Tz9.of_own (own_ext9 hown (fun x hx => put_row9 hi hk hik hx))); obtain ⟨HX, hz0', hz', hc', hf'⟩ := bst (w0 := w1) (by go_grown) hb'; clear hown hb' hf' hc' hz' hz0')
             | (go_at_call 56; (with_reducible refine (l9Close_any n _ (n * n) h144 (flP n (putQ N i k (N i k &&& m))) HL8.out _ HO7.out).mono ?_); rintro e w8 ⟨rfl, hb'⟩; obtain ⟨HX, hz0', hz', hc', hf'⟩ := bst (w0 := w1) (by go_grown) hb'; have HKQ := hid (fun v0 v1 => ((HK1.out.below HX HK1.out.lt).far (p := ⟨w.heap.size + 1, 0, none⟩) (show w.heap.size ≠ w.heap.size + 1 by omega) v0).far (p := ⟨w.heap.size + 1, 1, none⟩) (show w.heap.size ≠ w.heap.size + 1 by omega) v1); have HR8 := HR1.out.below HX HR1.out.lt; have y0 := HR8.c0; have y1 := HR8.c1; have yf0 := HR8.fr 0; have yf1 := HR8.fr 1; clear hb' hf' hc' hz' hz0') | fail)
        all_goals
          go_wp2_with fail
          refine bodyPost_ret (by simp [results, Tryd.results21, go_sem, *]; try rfl) rfl ?_
          exact ⟨ret_lim HV.out rfl (HPS.out _).symm rfl, ((HB1.out.trans (HX.mono HB1.out.size)).setCell (p := ⟨w.heap.size + 1, 0, none⟩) (by simp) _).setCell (p := ⟨w.heap.size + 1, 1, none⟩) (by simp) _⟩
set_option maxHeartbeats 1000000 in
theorem walk_FnExactLimitOrder (a00 : Int) (a01 : ByteArray) (a1 a2 a3 : Int) (w : World) (w00 : (Lit.int .i64 a00).wf = true) (w01 : a01.size ≤ maxLen) (w1 : (Lit.int .i64 a1).wf = true) (w2 : (Lit.int .i64 a2).wf = true) (w3 : (Lit.int .i64 a3).wf = true) (hT : TO w) :
    Calls Tryd.prog 5 #[.agg #[.int .i64 a00, .string a01], .int .i64 a1, .int .i64 a2, .int .i64 a3] w fun e w' => e = .returned (.bool true) ∧ Below w.heap.size w w' := by
  have HT := hid hT
  clear hT w00 w1 w2 w3
  by_cases hs : a01.size ≤ 1048576
  · have h0 : decide ((1048576 : Int) - (a01.size : Int) < 0) = false := by simp; omega
    have h1 : decide ((1048576 : Int) < (a01.size : Int)) = false := by simp; omega
    clear w01
    have HS0 := hid (sLimitOrder_any a00 a01 a1 a2 a3)
    have HI0 := hid (iLimitOrder_any a00 a01 a1 a2 a3)
    generalize limR a00 a01 a1 a2 a3 = p at *
    obtain ⟨p1, p2, p3⟩ := p
    simp only at HS0 HI0
    have HS := AllLt.start w; have hn2 := lt2; have hn3 := lt3; have hn4 := lt4; go_enter Tryd.func5, Tryd.ntmps5
    go_wp2_with (first | (go_at_call 15; (with_reducible refine (szPN_on a00 a01 hs _).mono ?_); rintro e w' ⟨rfl, hb⟩; obtain ⟨HB, hz0, hz, hc, hf⟩ := bst (w0 := w) (by go_grown) hb; clear hb; (try simp at hz); (first | ((refine HS.g5 (m := w'.heap.size) ?_ ?_); (focus omega); intro HS) | ((refine HS.g4 (m := w'.heap.size) ?_ ?_); (focus omega); intro HS) | ((refine HS.g3 (m := w'.heap.size) ?_ ?_); (focus omega); intro HS) | ((refine HS.g2 (m := w'.heap.size) ?_ ?_); (focus omega); intro HS) | ((refine HS.g1 (m := w'.heap.size) ?_ ?_); (focus omega); intro HS) | ((refine HS.g0 (m := w'.heap.size) ?_ ?_); (focus omega); intro HS)); have HU := HS; simp only [AllLt] at HU) | (go_at_call 17; (with_reducible refine (toPN_any _ _ _).mono ?_); rintro e w' ⟨rfl, hb⟩; obtain ⟨HB, hz0, hz, hc, hf⟩ := bst (w0 := w) (by go_grown) hb; clear hb; (try simp at hz); (first | ((refine HS.g5 (m := w'.heap.size) ?_ ?_); (focus omega); intro HS) | ((refine HS.g4 (m := w'.heap.size) ?_ ?_); (focus omega); intro HS) | ((refine HS.g3 (m := w'.heap.size) ?_ ?_); (focus omega); intro HS) | ((refine HS.g2 (m := w'.heap.size) ?_ ?_); (focus omega); intro HS) | ((refine HS.g1 (m := w'.heap.size) ?_ ?_); (focus omega); intro HS) | ((refine HS.g0 (m := w'.heap.size) ?_ ?_); (focus omega); intro HS)); have HU := HS; simp only [AllLt] at HU) | (go_at_call 21; (with_reducible refine (HS0.out _).mono ?_); rintro e w' ⟨rfl, hb⟩; obtain ⟨HB, hz0, hz, hc, hf⟩ := bst (w0 := w) (by go_grown) hb; clear hb; (try simp at hz); (first | ((refine HS.g5 (m := w'.heap.size) ?_ ?_); (focus omega); intro HS) | ((refine HS.g4 (m := w'.heap.size) ?_ ?_); (focus omega); intro HS) | ((refine HS.g3 (m := w'.heap.size) ?_ ?_); (focus omega); intro HS) | ((refine HS.g2 (m := w'.heap.size) ?_ ?_); (focus omega); intro HS) | ((refine HS.g1 (m := w'.heap.size) ?_ ?_); (focus omega); intro HS) | ((refine HS.g0 (m := w'.heap.size) ?_ ?_); (focus omega); intro HS)); have HU := HS; simp only [AllLt] at HU) | (go_at_call 22; (with_reducible refine (HI0.out _ (HT.out.below (by go_grown))).mono ?_); rintro e w' ⟨rfl, hb⟩; obtain ⟨HB, hz0, hz, hc, hf⟩ := bst (w0 := w) (by go_grown) hb; clear hb; (try simp at hz); (first | ((refine HS.g5 (m := w'.heap.size) ?_ ?_); (focus omega); intro HS) | ((refine HS.g4 (m := w'.heap.size) ?_ ?_); (focus omega); intro HS) | ((refine HS.g3 (m := w'.heap.size) ?_ ?_); (focus omega); intro HS) | ((refine HS.g2 (m := w'.heap.size) ?_ ?_); (focus omega); intro HS) | ((refine HS.g1 (m := w'.heap.size) ?_ ?_); (focus omega); intro HS) | ((refine HS.g0 (m := w'.heap.size) ?_ ?_); (focus omega); intro HS)); have HU := HS; simp only [AllLt] at HU) | (go_at_call 23; (with_reducible refine (eqPN_same _ _ _).mono ?_); rintro e w' ⟨rfl, hb⟩; obtain ⟨HB, hz0, hz, hc, hf⟩ := bst (w0 := w) (by go_grown) hb; clear hb; (try simp at hz); (first | ((refine HS.g5 (m := w'.heap.size) ?_ ?_); (focus omega); intro HS) | ((refine HS.g4 (m := w'.heap.size) ?_ ?_); (focus omega); intro HS) | ((refine HS.g3 (m := w'.heap.size) ?_ ?_); (focus omega); intro HS) | ((refine HS.g2 (m := w'.heap.size) ?_ ?_); (focus omega); intro HS) | ((refine HS.g1 (m := w'.heap.size) ?_ ?_); (focus omega); intro HS) | ((refine HS.g0 (m := w'.heap.size) ?_ ?_); (focus omega); intro HS)); have HU := HS; simp only [AllLt] at HU))
    go_ret
    exact ⟨rfl, by (repeat' (first | (with_reducible exact Below.refl _ _) | (with_reducible refine Below.setCell ?_ ?_ _) | (with_reducible refine below_drewN' ?_ _) | (with_reducible refine below_drew' ?_) | (with_reducible refine Below.alloc ?_ ?_ _) | (with_reducible assumption) | go_size))⟩
  · have HS := AllLt.start w; have hn2 := lt2; have hn3 := lt3; have hn4 := lt4; go_enter Tryd.func5, Tryd.ntmps5
    go_wp2_with (first | (go_at_call 15; (with_reducible refine (szPN_off a00 a01 hs w01 _).mono ?_); rintro e w' ⟨rfl, hb⟩; obtain ⟨HB, hz0, hz, hc, hf⟩ := bst (w0 := w) (by go_grown) hb; clear hb; (try simp at hz); (first | ((refine HS.g5 (m := w'.heap.size) ?_ ?_); (focus omega); intro HS) | ((refine HS.g4 (m := w'.heap.size) ?_ ?_); (focus omega); intro HS) | ((refine HS.g3 (m := w'.heap.size) ?_ ?_); (focus omega); intro HS) | ((refine HS.g2 (m := w'.heap.size) ?_ ?_); (focus omega); intro HS) | ((refine HS.g1 (m := w'.heap.size) ?_ ?_); (focus omega); intro HS) | ((refine HS.g0 (m := w'.heap.size) ?_ ?_); (focus omega); intro HS)); have HU := HS; simp only [AllLt] at HU))
    go_ret
    exact ⟨rfl, by (repeat' (first | (with_reducible exact Below.refl _ _) | (with_reducible refine Below.setCell ?_ ?_ _) | (with_reducible refine below_drewN' ?_ _) | (with_reducible refine below_drew' ?_) | (with_reducible refine Below.alloc ?_ ?_ _) | (with_reducible assumption) | go_size))⟩
end Go.Proofs.YtmdgkhebefnfeaaDoor.C
