/- The orders of two points of a network, and whether one is valid: the program, the model, the exact laws. -/
import Derived.Test.YtmdgkhebefnfeaaDoorPntF
import Derived.Test.YtmdgkhebefnfeaaDoorPntS
namespace Go.Proofs.YtmdgkhebefnfeaaDoor.C
open Go.RowKit
set_option linter.unusedVariables false
set_option linter.unusedSimpArgs false
/-- a number is that of a point -/
def hasQ (n : Nat) (i : Int) : Bool := btw 0 i ((n : Int) - 1)
theorem hasQ_in {n i : Nat} (h : i < n) : hasQ n i = true := by simp [hasQ, btw]; omega
theorem hasQ_cases (n : Nat) (i : Int) : hasQ n i = false ∨ ∃ k : Nat, k < n ∧ i = k := by
  by_cases h : 0 ≤ i ∧ i < n
  · exact .inr ⟨i.toNat, by omega, by omega⟩
  · left; simp [hasQ, btw]; omega
/-- the orders of two points of a text's network -/
noncomputable def ordI (z : Int) (s : ByteArray) (i k : Int) : Int := if PV z s && hasQ z.toNat i && hasQ z.toNat k then ((pmx z.toNat s i.toNat k.toNat : Nat) : Int) else -1
theorem ordI_no {z : Int} {s : ByteArray} (i k : Int) (h : PV z s = false) : ordI z s i k = -1 := by simp [ordI, h]
theorem ordI_i {n : Nat} {s : ByteArray} {i : Int} (k : Int) (h : hasQ n i = false) : ordI n s i k = -1 := by simp [ordI, h]
theorem ordI_k {n : Nat} {s : ByteArray} {k : Int} (i : Int) (h : hasQ n k = false) : ordI n s i k = -1 := by simp [ordI, h]
theorem ordI_in {n : Nat} {N : Nat → Nat → Nat} (h : OkP n N) {i k : Nat} (hi : i < n) (hk : k < n) : ordI n (pntS n N) i k = (N i k : Nat) := by
  simp [ordI, PV_pnt h, hasQ_in hi, hasQ_in hk, pmx_pnt h hi hk]
theorem nhq_any (n : Nat) (i : Int) (w : World) :
    Calls Tryd.prog 54 #[.agg #[.int .i64 n], .int .i64 i] w fun e w' => e = .returned (.bool (hasQ n i)) ∧ Below w.heap.size w w' := by
  by_cases h0 : 0 ≤ i
  · by_cases h1 : i < (n : Int)
    · have HR := hid (show hasQ n i = true by simp [hasQ, btw]; omega)
      have HS := AllLt.start w; go_enter Tryd.func54, Tryd.ntmps54
      go_wp2
      go_ret
      exact ⟨by rw [HR.out]; first | rfl | simp [h1], by (repeat' (first | (with_reducible exact Below.refl _ _) | (with_reducible refine Below.setCell ?_ ?_ _) | (with_reducible refine below_drewN' ?_ _) | (with_reducible refine below_drew' ?_) | (with_reducible refine Below.alloc ?_ ?_ _) | (with_reducible assumption) | go_size))⟩
    · have HR := hid (show hasQ n i = false by simp [hasQ, btw]; omega)
      have h2 : decide (i < (n : Int)) = false := by simp; omega
      have HS := AllLt.start w; go_enter Tryd.func54, Tryd.ntmps54
      go_wp2
      go_ret
      exact ⟨by rw [HR.out]; first | rfl | simp [h1], by (repeat' (first | (with_reducible exact Below.refl _ _) | (with_reducible refine Below.setCell ?_ ?_ _) | (with_reducible refine below_drewN' ?_ _) | (with_reducible refine below_drew' ?_) | (with_reducible refine Below.alloc ?_ ?_ _) | (with_reducible assumption) | go_size))⟩
  · have HR := hid (show hasQ n i = false by simp [hasQ, btw]; omega)
    have h2 : decide (0 ≤ i) = false := by simp; omega
    have HS := AllLt.start w; go_enter Tryd.func54, Tryd.ntmps54
    go_wp2
    go_ret
    exact ⟨by rw [HR.out]; first | rfl | simp [h0], by (repeat' (first | (with_reducible exact Below.refl _ _) | (with_reducible refine Below.setCell ?_ ?_ _) | (with_reducible refine below_drewN' ?_ _) | (with_reducible refine below_drew' ?_) | (with_reducible refine Below.alloc ?_ ?_ _) | (with_reducible assumption) | go_size))⟩
set_option maxHeartbeats 2000000 in
theorem iOrderIn_any (z : Int) (s : ByteArray) (i k : Int) (w : World) (hT : TO w) :
    Calls Tryd.prog 20 #[.agg #[.int .i64 z, .string s], .int .i64 i, .int .i64 k] w fun e w' => e = .returned (.int .i64 (ordI z s i k)) ∧ Below w.heap.size w w' := by
  have HT := hid (hT.below ((Below.refl w.heap.size w).alloc (Nat.le_refl _) (.cells #[.int .i64 z, .string s] 26)))
  clear hT
  rcases PV_cases z s with h | ⟨n, N, hN, rfl, rfl⟩
  · have HC := hid (pof_no z s h _ HT.out)
    have HV := hid (ordI_no i k h)
    clear h
    have HS := AllLt.start w; have hn2 := lt2; have hn3 := lt3; have hn4 := lt4; go_enter Tryd.func20, Tryd.ntmps20
    go_wp2_with (first | (go_at_call 52; (with_reducible refine (HC.out).mono ?_); rintro e w' ⟨rfl, hb⟩; obtain ⟨HB, hz0, hz, hc, hf⟩ := bst (w0 := w) (by go_grown) hb; clear hb; (try simp at hz); (first | ((refine HS.g5 (m := w'.heap.size) ?_ ?_); (focus omega); intro HS) | ((refine HS.g4 (m := w'.heap.size) ?_ ?_); (focus omega); intro HS) | ((refine HS.g3 (m := w'.heap.size) ?_ ?_); (focus omega); intro HS) | ((refine HS.g2 (m := w'.heap.size) ?_ ?_); (focus omega); intro HS) | ((refine HS.g1 (m := w'.heap.size) ?_ ?_); (focus omega); intro HS) | ((refine HS.g0 (m := w'.heap.size) ?_ ?_); (focus omega); intro HS)); have HU := HS; simp only [AllLt] at HU))
    go_ret
    exact ⟨ret_int HV.out.symm, by (repeat' (first | (with_reducible exact Below.refl _ _) | (with_reducible refine Below.setCell ?_ ?_ _) | (with_reducible refine below_drewN' ?_ _) | (with_reducible refine below_drew' ?_) | (with_reducible refine Below.alloc ?_ ?_ _) | (with_reducible assumption) | go_size))⟩
  · have HC := hid (pof_yes n N hN _ HT.out)
    have HB0 := hid ((Below.refl w.heap.size w).alloc (Nat.le_refl _) (.cells #[.int .i64 (n : Int), .string (pntS n N)] 26))
    have HOK := hid hN
    have HIN := hid (fun (i k : Nat) (hi : i < n) (hk : k < n) => ordI_in hN hi hk)
    have HII := hid (fun (i k : Int) (h : hasQ n i = false) => ordI_i (s := pntS n N) k h)
    have HKK := hid (fun (i k : Int) (h : hasQ n k = false) => ordI_k (s := pntS n N) i h)
    generalize pntS n N = s at *
    have HS := AllLt.start w; go_enter Tryd.func20, Tryd.ntmps20
    go_wp2_with fail
    (with_reducible refine HC.out.mono ?_)
    rintro e w1 ⟨⟨g, rfl, _, hp⟩, hb⟩
    have HB1 := hid (HB0.out.trans (hb.mono HB0.out.size))
    have HT1 := hid (HT.out.below hb)
    have HBB := hid ((Below.refl w1.heap.size w1).alloc (Nat.le_refl _) (.cells #[.int .i64 (n : Int), .map (some g)] 65))
    have HP2 := hid (PB.made w1 n g)
    have HN2 := hid (hp.below HBB.out)
    have HT2 := hid (HT1.out.below HBB.out)
    have HB2 := hid (HB1.out.trans (HBB.out.mono HB1.out.size))
    clear hb hp
    go_upto_region 2 with fail
    generalize w1.alloc (.cells #[.int .i64 (n : Int), .map (some g)] 65) = w2 at *
    have q0 := HP2.out.c0
    rcases hasQ_cases n i with hi | ⟨i, hi, rfl⟩
    · have HI := hid hi
      clear hi
      go_wp2_with (first | (go_at_call 54; (with_reducible refine (nhq_any n i _).mono ?_); rintro e w' ⟨rfl, hb⟩; rw [HI.out]))
      go_ret
      exact ⟨ret_int (HII.out i k HI.out).symm, HB2.out.trans (hb.mono HB2.out.size)⟩
    · have HI := hid (hasQ_in hi)
      go_wp2_with fail
      (with_reducible refine (nhq_any n i _).mono ?_)
      rintro e w3 ⟨rfl, hb⟩
      rw [HI.out]
      have HP3 := hid (HP2.out.below hb)
      have HN3 := hid (HN2.out.below hb)
      have HT3 := hid (HT2.out.below hb)
      have HB3 := hid (HB2.out.trans (hb.mono HB2.out.size))
      clear hb q0
      have q0 := HP3.out.c0
      rcases hasQ_cases n k with hk | ⟨k, hk, rfl⟩
      · have HK := hid hk
        clear hk
        go_wp2_with (first | (go_at_call 54; (with_reducible refine (nhq_any n k _).mono ?_); rintro e w' ⟨rfl, hb⟩; rw [HK.out]))
        go_ret
        exact ⟨ret_int (HKK.out i k HK.out).symm, HB3.out.trans (hb.mono HB3.out.size)⟩
      · have HK := hid (hasQ_in hk)
        go_wp2_with fail
        (with_reducible refine (nhq_any n k _).mono ?_)
        rintro e w4 ⟨rfl, hb⟩
        rw [HK.out]
        have HP4 := hid (HP3.out.below hb)
        have HN4 := hid (HN3.out.below hb)
        have HT4 := hid (HT3.out.below hb)
        have HB4 := hid (HB3.out.trans (hb.mono HB3.out.size))
        clear hb q0
        have q0 := HP4.out.c0
        have q1 := HP4.out.c1
        go_wp2_with fail
        (with_reducible refine (pset_any g n N HOK.out i k hi hk _ HN4.out HT4.out).mono ?_)
        rintro e w5 ⟨rfl, hb⟩
        have HB5 := hid (HB4.out.trans (hb.mono HB4.out.size))
        clear hb q0 q1
        go_wp2_with fail
        go_ret
        exact ⟨ret_int (HIN.out i k hi hk).symm, HB5.out⟩
noncomputable def pntB (z : Int) (s : ByteArray) (i k : Int) : Bool := PV z s && hasQ z.toNat i && hasQ z.toNat k
set_option maxHeartbeats 2000000 in
theorem l9Points_any (z : Int) (s : ByteArray) (i k : Int) (w : World) :
    Calls Tryd.prog 53 #[.agg #[.int .i64 z, .string s], .int .i64 i, .int .i64 k] w fun e w' => e = .returned (.bool (pntB z s i k)) ∧ Below w.heap.size w w' := by
  rcases PV_cases z s with h | ⟨n, N, hN, rfl, rfl⟩
  · have HNV := hid h
    have HR := hid (show pntB z s i k = false by simp [pntB, h])
    clear h
    have HS := AllLt.start w; have hn2 := lt2; have hn3 := lt3; have hn4 := lt4; go_enter Tryd.func53, Tryd.ntmps53
    go_wp2_with (first | (go_at_call 16; (with_reducible refine (sPointNetValid_any z s _).mono ?_); rintro e w' ⟨rfl, hb⟩; obtain ⟨HB, hz0, hz, hc, hf⟩ := bst (w0 := w) (by go_grown) hb; clear hb; (try simp at hz); (first | ((refine HS.g5 (m := w'.heap.size) ?_ ?_); (focus omega); intro HS) | ((refine HS.g4 (m := w'.heap.size) ?_ ?_); (focus omega); intro HS) | ((refine HS.g3 (m := w'.heap.size) ?_ ?_); (focus omega); intro HS) | ((refine HS.g2 (m := w'.heap.size) ?_ ?_); (focus omega); intro HS) | ((refine HS.g1 (m := w'.heap.size) ?_ ?_); (focus omega); intro HS) | ((refine HS.g0 (m := w'.heap.size) ?_ ?_); (focus omega); intro HS)); have HU := HS; simp only [AllLt] at HU; rw [HNV.out]))
    go_ret
    exact ⟨ret_bool HR.out.symm, by (repeat' (first | (with_reducible exact Below.refl _ _) | (with_reducible refine Below.setCell ?_ ?_ _) | (with_reducible refine below_drewN' ?_ _) | (with_reducible refine below_drew' ?_) | (with_reducible refine Below.alloc ?_ ?_ _) | (with_reducible assumption) | go_size))⟩
  · have HNV := hid (PV_pnt hN)
    have h12 := hN.le
    have h1 := hN.one
    generalize pntS n N = s at *
    have hw : IntKind.i64.wrap ((n : Int) - 1) = (n : Int) - 1 := IntWalk.i64_in _ (by omega)
    have HI : Hid (btw 0 i ((n : Int) - 1) = hasQ n i) := hid rfl
    have HK : Hid (btw 0 k ((n : Int) - 1) = hasQ n k) := hid rfl
    have HPB := hid (show pntB n s i k = (hasQ n i && hasQ n k) by simp [pntB, HNV.out])
    cases hi : hasQ n i
    · have HQ := hid hi
      clear hi
      have HS := AllLt.start w; have hn2 := lt2; have hn3 := lt3; have hn4 := lt4; go_enter Tryd.func53, Tryd.ntmps53
      go_wp2_with (first | (go_at_call 16; (with_reducible refine (sPointNetValid_any _ s _).mono ?_); rintro e w' ⟨rfl, hb⟩; obtain ⟨HB, hz0, hz, hc, hf⟩ := bst (w0 := w) (by go_grown) hb; clear hb; (try simp at hz); (first | ((refine HS.g5 (m := w'.heap.size) ?_ ?_); (focus omega); intro HS) | ((refine HS.g4 (m := w'.heap.size) ?_ ?_); (focus omega); intro HS) | ((refine HS.g3 (m := w'.heap.size) ?_ ?_); (focus omega); intro HS) | ((refine HS.g2 (m := w'.heap.size) ?_ ?_); (focus omega); intro HS) | ((refine HS.g1 (m := w'.heap.size) ?_ ?_); (focus omega); intro HS) | ((refine HS.g0 (m := w'.heap.size) ?_ ?_); (focus omega); intro HS)); have HU := HS; simp only [AllLt] at HU; rw [HNV.out]) | (go_at_call 49; (with_reducible refine (l1In_any i _ _ _).mono ?_); rintro e w' ⟨rfl, rfl⟩; rw [HI.out, HQ.out]))
      go_ret
      exact ⟨ret_bool (by rw [HPB.out, HQ.out]; rfl), by (repeat' (first | (with_reducible exact Below.refl _ _) | (with_reducible refine Below.setCell ?_ ?_ _) | (with_reducible refine below_drewN' ?_ _) | (with_reducible refine below_drew' ?_) | (with_reducible refine Below.alloc ?_ ?_ _) | (with_reducible assumption) | go_size))⟩
    · have HQ := hid hi
      clear hi
      cases hk : hasQ n k
      all_goals
        have HQ2 := hid hk
        clear hk
        have HS := AllLt.start w; have hn2 := lt2; have hn3 := lt3; have hn4 := lt4; go_enter Tryd.func53, Tryd.ntmps53
        go_wp2_with fail
        (with_reducible refine (sPointNetValid_any _ s _).mono ?_)
        rintro e w2 ⟨rfl, hb⟩
        rw [HNV.out]
        obtain ⟨HB, hz0, hz, hc, hf⟩ := bst (w0 := w) (by go_grown) hb; clear hb; (try simp at hz); (first | ((refine HS.g5 (m := w2.heap.size) ?_ ?_); (focus omega); intro HS) | ((refine HS.g4 (m := w2.heap.size) ?_ ?_); (focus omega); intro HS) | ((refine HS.g3 (m := w2.heap.size) ?_ ?_); (focus omega); intro HS) | ((refine HS.g2 (m := w2.heap.size) ?_ ?_); (focus omega); intro HS) | ((refine HS.g1 (m := w2.heap.size) ?_ ?_); (focus omega); intro HS) | ((refine HS.g0 (m := w2.heap.size) ?_ ?_); (focus omega); intro HS)); have HU := HS; simp only [AllLt] at HU
        go_wp2_with fail
        (with_reducible refine (l1In_any i _ _ _).mono ?_)
        rintro e w' ⟨rfl, rfl⟩
        rw [HI.out, HQ.out]
        go_wp2_with fail
        (with_reducible refine (l1In_any k _ _ _).mono ?_)
        rintro e w' ⟨rfl, rfl⟩
        rw [HK.out, HQ2.out]
        go_wp2_with fail
        go_ret
        exact ⟨ret_bool (by simp [HPB.out, HQ.out, HQ2.out]), by (repeat' (first | (with_reducible exact Below.refl _ _) | (with_reducible refine Below.setCell ?_ ?_ _) | (with_reducible refine below_drewN' ?_ _) | (with_reducible refine below_drew' ?_) | (with_reducible refine Below.alloc ?_ ?_ _) | (with_reducible assumption) | go_size))⟩
set_option maxHeartbeats 2000000 in
theorem sOrderIn_any (z : Int) (s : ByteArray) (i k : Int) (w : World) :
    Calls Tryd.prog 19 #[.agg #[.int .i64 z, .string s], .int .i64 i, .int .i64 k] w fun e w' => e = .returned (.int .i64 (ordI z s i k)) ∧ Below w.heap.size w w' := by
  have HCV := hid (l9Points_any z s i k)
  cases h : pntB z s i k
  · have HQ := hid h
    have HR := hid (show ordI z s i k = -1 by unfold ordI; rw [show (PV z s && hasQ z.toNat i && hasQ z.toNat k) = false from h]; rfl)
    clear h
    have HS := AllLt.start w; have hn2 := lt2; have hn3 := lt3; have hn4 := lt4; go_enter Tryd.func19, Tryd.ntmps19
    go_wp2_with (first | (go_at_call 53; (with_reducible refine (HCV.out _).mono ?_); rintro e w' ⟨rfl, hb⟩; obtain ⟨HB, hz0, hz, hc, hf⟩ := bst (w0 := w) (by go_grown) hb; clear hb; (try simp at hz); (first | ((refine HS.g5 (m := w'.heap.size) ?_ ?_); (focus omega); intro HS) | ((refine HS.g4 (m := w'.heap.size) ?_ ?_); (focus omega); intro HS) | ((refine HS.g3 (m := w'.heap.size) ?_ ?_); (focus omega); intro HS) | ((refine HS.g2 (m := w'.heap.size) ?_ ?_); (focus omega); intro HS) | ((refine HS.g1 (m := w'.heap.size) ?_ ?_); (focus omega); intro HS) | ((refine HS.g0 (m := w'.heap.size) ?_ ?_); (focus omega); intro HS)); have HU := HS; simp only [AllLt] at HU; rw [HQ.out]))
    go_ret
    exact ⟨ret_int HR.out.symm, by (repeat' (first | (with_reducible exact Below.refl _ _) | (with_reducible refine Below.setCell ?_ ?_ _) | (with_reducible refine below_drewN' ?_ _) | (with_reducible refine below_drew' ?_) | (with_reducible refine Below.alloc ?_ ?_ _) | (with_reducible assumption) | go_size))⟩
  · have HQ := hid h
    obtain ⟨n, N, hN, rfl, rfl⟩ := (PV_cases z s).resolve_left (fun e => by unfold pntB at h; rw [e] at h; simp at h)
    have hii : hasQ n i = true := by
      unfold pntB at h
      rw [Int.toNat_natCast, Bool.and_eq_true, Bool.and_eq_true] at h
      exact h.1.2
    have hkk : hasQ n k = true := by
      unfold pntB at h
      rw [Int.toNat_natCast, Bool.and_eq_true] at h
      exact h.2
    clear h
    obtain ⟨i, hi, rfl⟩ := (hasQ_cases n i).resolve_left (fun e => by rw [e] at hii; cases hii)
    obtain ⟨k, hk, rfl⟩ := (hasQ_cases n k).resolve_left (fun e => by rw [e] at hkk; cases hkk)
    have HR := hid (ordI_in hN hi hk)
    have h12 := hN.le
    have h8 := hN.lt i k hi hk
    have hlt := pat_lt hi hk
    have h144 : n * n ≤ 144 := Nat.mul_le_mul h12 h12
    have hbt := bt_pnt N hi hk
    have hsz := pntS_size n N
    generalize pntS n N = s at *
    obtain ⟨x, hx⟩ : ∃ x : Nat, x = i * n := ⟨_, rfl⟩
    have hmul : (i : Int) * (n : Int) = (x : Int) := by rw [hx]; push_cast; rfl
    rw [← hx] at hlt hbt
    have hidx := fun wx => bt_idx2 s (x := x) (k := k) (by rw [hsz]; exact hlt) wx
    have hbt2 : (bt s (x + k)).toNat = 48 + N i k := by rw [hbt]; exact dg8_toNat h8
    have b1 := bt_lt s (x + k)
    have hR : ((bt s (x + k)).toNat : Int) - 48 = ((N i k : Nat) : Int) := by rw [hbt2]; omega
    generalize (bt s (x + k)).toNat = a at *
    clear hii hkk hx hsz hbt hbt2
    generalize n * n = nn at *
    have HS := AllLt.start w; have hn2 := lt2; have hn3 := lt3; have hn4 := lt4; go_enter Tryd.func19, Tryd.ntmps19
    go_wp2_with (first | (go_at_call 53; (with_reducible refine (HCV.out _).mono ?_); rintro e w' ⟨rfl, hb⟩; obtain ⟨HB, hz0, hz, hc, hf⟩ := bst (w0 := w) (by go_grown) hb; clear hb; (try simp at hz); (first | ((refine HS.g5 (m := w'.heap.size) ?_ ?_); (focus omega); intro HS) | ((refine HS.g4 (m := w'.heap.size) ?_ ?_); (focus omega); intro HS) | ((refine HS.g3 (m := w'.heap.size) ?_ ?_); (focus omega); intro HS) | ((refine HS.g2 (m := w'.heap.size) ?_ ?_); (focus omega); intro HS) | ((refine HS.g1 (m := w'.heap.size) ?_ ?_); (focus omega); intro HS) | ((refine HS.g0 (m := w'.heap.size) ?_ ?_); (focus omega); intro HS)); have HU := HS; simp only [AllLt] at HU; rw [HQ.out]))
    go_ret
    exact ⟨ret_int (by first | (rw [HR.out]; done) | (rw [HR.out]; first | rfl | exact hR)), by (repeat' (first | (with_reducible exact Below.refl _ _) | (with_reducible refine Below.setCell ?_ ?_ _) | (with_reducible refine below_drewN' ?_ _) | (with_reducible refine below_drew' ?_) | (with_reducible refine Below.alloc ?_ ?_ _) | (with_reducible assumption) | go_size))⟩
theorem szPN_on (z : Int) (s : ByteArray) (hs : s.size ≤ 1048576) (w : World) :
    Calls Tryd.prog 15 #[.agg #[.int .i64 z, .string s], .int .i64 1048576] w fun e w' => e = .returned (.int .i64 (1048576 - s.size)) ∧ Below w.heap.size w w' := by
  have h1 : decide ((1048576 : Int) < (s.size : Int)) = false := by simp; omega
  have h2 : ¬ ((1048576 : Int) - (s.size : Int) < 0) := by omega
  have HS := AllLt.start w; go_enter Tryd.func15, Tryd.ntmps15
  go_wp2
  go_ret
  exact ⟨rfl, by (repeat' (first | (with_reducible exact Below.refl _ _) | (with_reducible refine Below.setCell ?_ ?_ _) | (with_reducible refine below_drewN' ?_ _) | (with_reducible refine below_drew' ?_) | (with_reducible refine Below.alloc ?_ ?_ _) | (with_reducible assumption) | go_size))⟩
theorem szPN_off (z : Int) (s : ByteArray) (hs : ¬ s.size ≤ 1048576) (hm : s.size ≤ maxLen) (w : World) :
    Calls Tryd.prog 15 #[.agg #[.int .i64 z, .string s], .int .i64 1048576] w fun e w' => e = .returned (.int .i64 (-1)) ∧ Below w.heap.size w w' := by
  unfold maxLen at hm
  have h2 : (1048576 : Int) - (s.size : Int) < 0 := by omega
  have h3 : (1048576 : Int) < (s.size : Int) := by omega
  have HS := AllLt.start w; go_enter Tryd.func15, Tryd.ntmps15
  go_wp2
  go_ret
  exact ⟨rfl, by (repeat' (first | (with_reducible exact Below.refl _ _) | (with_reducible refine Below.setCell ?_ ?_ _) | (with_reducible refine below_drewN' ?_ _) | (with_reducible refine below_drew' ?_) | (with_reducible refine Below.alloc ?_ ?_ _) | (with_reducible assumption) | go_size))⟩
theorem toPN_any (z : Int) (s : ByteArray) (w : World) :
    Calls Tryd.prog 17 #[.agg #[.int .i64 z, .string s]] w fun e w' => e = .returned (.agg #[.int .i64 z, .string s]) ∧ Below w.heap.size w w' := by
  have HS := AllLt.start w; have hn2 := lt2; have hn3 := lt3; have hn4 := lt4; go_enter Tryd.func17, Tryd.ntmps17
  go_wp2
  refine bodyPost_ret (by simp [results, Tryd.results17, go_sem, *]; try rfl) rfl ?_
  exact ⟨rfl, by (repeat' (first | (with_reducible exact Below.refl _ _) | (with_reducible refine Below.setCell ?_ ?_ _) | (with_reducible refine below_drewN' ?_ _) | (with_reducible refine below_drew' ?_) | (with_reducible refine Below.alloc ?_ ?_ _) | (with_reducible assumption) | go_size))⟩
theorem eqPN_same (z : Int) (s : ByteArray) (w : World) :
    Calls Tryd.prog 23 #[.agg #[.int .i64 z, .string s], .agg #[.int .i64 z, .string s]] w fun e w' => e = .returned (.bool true) ∧ Below w.heap.size w w' := by
  have HS := AllLt.start w; go_enter Tryd.func23, Tryd.ntmps23
  go_wp2
  go_ret
  exact ⟨rfl, by (repeat' (first | (with_reducible exact Below.refl _ _) | (with_reducible refine Below.setCell ?_ ?_ _) | (with_reducible refine below_drewN' ?_ _) | (with_reducible refine below_drew' ?_) | (with_reducible refine Below.alloc ?_ ?_ _) | (with_reducible assumption) | go_size))⟩
set_option maxHeartbeats 1000000 in
theorem walk_FnExactPointNetValid (a00 : Int) (a01 : ByteArray) (w : World) (w00 : (Lit.int .i64 a00).wf = true) (w01 : a01.size ≤ maxLen) (hT : TO w) :
    Calls Tryd.prog 3 #[.agg #[.int .i64 a00, .string a01]] w fun e w' => e = .returned (.bool true) ∧ Below w.heap.size w w' := by
  have HT := hid hT
  clear hT w00
  by_cases hs : a01.size ≤ 1048576
  · have h0 : decide ((1048576 : Int) - (a01.size : Int) < 0) = false := by simp; omega
    have h1 : decide ((1048576 : Int) < (a01.size : Int)) = false := by simp; omega
    clear w01
    have HS := AllLt.start w; have hn2 := lt2; have hn3 := lt3; have hn4 := lt4; go_enter Tryd.func3, Tryd.ntmps3
    go_wp2_with (first | (go_at_call 15; (with_reducible refine (szPN_on a00 a01 hs _).mono ?_); rintro e w' ⟨rfl, hb⟩; obtain ⟨HB, hz0, hz, hc, hf⟩ := bst (w0 := w) (by go_grown) hb; clear hb; (try simp at hz); (first | ((refine HS.g5 (m := w'.heap.size) ?_ ?_); (focus omega); intro HS) | ((refine HS.g4 (m := w'.heap.size) ?_ ?_); (focus omega); intro HS) | ((refine HS.g3 (m := w'.heap.size) ?_ ?_); (focus omega); intro HS) | ((refine HS.g2 (m := w'.heap.size) ?_ ?_); (focus omega); intro HS) | ((refine HS.g1 (m := w'.heap.size) ?_ ?_); (focus omega); intro HS) | ((refine HS.g0 (m := w'.heap.size) ?_ ?_); (focus omega); intro HS)); have HU := HS; simp only [AllLt] at HU) | (go_at_call 17; (with_reducible refine (toPN_any _ _ _).mono ?_); rintro e w' ⟨rfl, hb⟩; obtain ⟨HB, hz0, hz, hc, hf⟩ := bst (w0 := w) (by go_grown) hb; clear hb; (try simp at hz); (first | ((refine HS.g5 (m := w'.heap.size) ?_ ?_); (focus omega); intro HS) | ((refine HS.g4 (m := w'.heap.size) ?_ ?_); (focus omega); intro HS) | ((refine HS.g3 (m := w'.heap.size) ?_ ?_); (focus omega); intro HS) | ((refine HS.g2 (m := w'.heap.size) ?_ ?_); (focus omega); intro HS) | ((refine HS.g1 (m := w'.heap.size) ?_ ?_); (focus omega); intro HS) | ((refine HS.g0 (m := w'.heap.size) ?_ ?_); (focus omega); intro HS)); have HU := HS; simp only [AllLt] at HU) | (go_at_call 16; (with_reducible refine (sPointNetValid_any _ _ _).mono ?_); rintro e w' ⟨rfl, hb⟩; obtain ⟨HB, hz0, hz, hc, hf⟩ := bst (w0 := w) (by go_grown) hb; clear hb; (try simp at hz); (first | ((refine HS.g5 (m := w'.heap.size) ?_ ?_); (focus omega); intro HS) | ((refine HS.g4 (m := w'.heap.size) ?_ ?_); (focus omega); intro HS) | ((refine HS.g3 (m := w'.heap.size) ?_ ?_); (focus omega); intro HS) | ((refine HS.g2 (m := w'.heap.size) ?_ ?_); (focus omega); intro HS) | ((refine HS.g1 (m := w'.heap.size) ?_ ?_); (focus omega); intro HS) | ((refine HS.g0 (m := w'.heap.size) ?_ ?_); (focus omega); intro HS)); have HU := HS; simp only [AllLt] at HU) | (go_at_call 18; (with_reducible refine (iPointNetValid_any _ _ _ (HT.out.below (by go_grown))).mono ?_); rintro e w' ⟨rfl, hb⟩; obtain ⟨HB, hz0, hz, hc, hf⟩ := bst (w0 := w) (by go_grown) hb; clear hb; (try simp at hz); (first | ((refine HS.g5 (m := w'.heap.size) ?_ ?_); (focus omega); intro HS) | ((refine HS.g4 (m := w'.heap.size) ?_ ?_); (focus omega); intro HS) | ((refine HS.g3 (m := w'.heap.size) ?_ ?_); (focus omega); intro HS) | ((refine HS.g2 (m := w'.heap.size) ?_ ?_); (focus omega); intro HS) | ((refine HS.g1 (m := w'.heap.size) ?_ ?_); (focus omega); intro HS) | ((refine HS.g0 (m := w'.heap.size) ?_ ?_); (focus omega); intro HS)); have HU := HS; simp only [AllLt] at HU))
    go_ret
    exact ⟨rfl, by (repeat' (first | (with_reducible exact Below.refl _ _) | (with_reducible refine Below.setCell ?_ ?_ _) | (with_reducible refine below_drewN' ?_ _) | (with_reducible refine below_drew' ?_) | (with_reducible refine Below.alloc ?_ ?_ _) | (with_reducible assumption) | go_size))⟩
  · have HS := AllLt.start w; have hn2 := lt2; have hn3 := lt3; have hn4 := lt4; go_enter Tryd.func3, Tryd.ntmps3
    go_wp2_with (first | (go_at_call 15; (with_reducible refine (szPN_off a00 a01 hs w01 _).mono ?_); rintro e w' ⟨rfl, hb⟩; obtain ⟨HB, hz0, hz, hc, hf⟩ := bst (w0 := w) (by go_grown) hb; clear hb; (try simp at hz); (first | ((refine HS.g5 (m := w'.heap.size) ?_ ?_); (focus omega); intro HS) | ((refine HS.g4 (m := w'.heap.size) ?_ ?_); (focus omega); intro HS) | ((refine HS.g3 (m := w'.heap.size) ?_ ?_); (focus omega); intro HS) | ((refine HS.g2 (m := w'.heap.size) ?_ ?_); (focus omega); intro HS) | ((refine HS.g1 (m := w'.heap.size) ?_ ?_); (focus omega); intro HS) | ((refine HS.g0 (m := w'.heap.size) ?_ ?_); (focus omega); intro HS)); have HU := HS; simp only [AllLt] at HU))
    go_ret
    exact ⟨rfl, by (repeat' (first | (with_reducible exact Below.refl _ _) | (with_reducible refine Below.setCell ?_ ?_ _) | (with_reducible refine below_drewN' ?_ _) | (with_reducible refine below_drew' ?_) | (with_reducible refine Below.alloc ?_ ?_ _) | (with_reducible assumption) | go_size))⟩
set_option maxHeartbeats 1000000 in
theorem walk_FnExactOrderIn (a00 : Int) (a01 : ByteArray) (a1 a2 : Int) (w : World) (w00 : (Lit.int .i64 a00).wf = true) (w01 : a01.size ≤ maxLen) (w1 : (Lit.int .i64 a1).wf = true) (w2 : (Lit.int .i64 a2).wf = true) (hT : TO w) :
    Calls Tryd.prog 4 #[.agg #[.int .i64 a00, .string a01], .int .i64 a1, .int .i64 a2] w fun e w' => e = .returned (.bool true) ∧ Below w.heap.size w w' := by
  have HT := hid hT
  clear hT w00 w1 w2
  by_cases hs : a01.size ≤ 1048576
  · have h0 : decide ((1048576 : Int) - (a01.size : Int) < 0) = false := by simp; omega
    have h1 : decide ((1048576 : Int) < (a01.size : Int)) = false := by simp; omega
    clear w01
    have HS := AllLt.start w; have hn2 := lt2; have hn3 := lt3; have hn4 := lt4; go_enter Tryd.func4, Tryd.ntmps4
    go_wp2_with (first | (go_at_call 15; (with_reducible refine (szPN_on a00 a01 hs _).mono ?_); rintro e w' ⟨rfl, hb⟩; obtain ⟨HB, hz0, hz, hc, hf⟩ := bst (w0 := w) (by go_grown) hb; clear hb; (try simp at hz); (first | ((refine HS.g5 (m := w'.heap.size) ?_ ?_); (focus omega); intro HS) | ((refine HS.g4 (m := w'.heap.size) ?_ ?_); (focus omega); intro HS) | ((refine HS.g3 (m := w'.heap.size) ?_ ?_); (focus omega); intro HS) | ((refine HS.g2 (m := w'.heap.size) ?_ ?_); (focus omega); intro HS) | ((refine HS.g1 (m := w'.heap.size) ?_ ?_); (focus omega); intro HS) | ((refine HS.g0 (m := w'.heap.size) ?_ ?_); (focus omega); intro HS)); have HU := HS; simp only [AllLt] at HU) | (go_at_call 17; (with_reducible refine (toPN_any _ _ _).mono ?_); rintro e w' ⟨rfl, hb⟩; obtain ⟨HB, hz0, hz, hc, hf⟩ := bst (w0 := w) (by go_grown) hb; clear hb; (try simp at hz); (first | ((refine HS.g5 (m := w'.heap.size) ?_ ?_); (focus omega); intro HS) | ((refine HS.g4 (m := w'.heap.size) ?_ ?_); (focus omega); intro HS) | ((refine HS.g3 (m := w'.heap.size) ?_ ?_); (focus omega); intro HS) | ((refine HS.g2 (m := w'.heap.size) ?_ ?_); (focus omega); intro HS) | ((refine HS.g1 (m := w'.heap.size) ?_ ?_); (focus omega); intro HS) | ((refine HS.g0 (m := w'.heap.size) ?_ ?_); (focus omega); intro HS)); have HU := HS; simp only [AllLt] at HU) | (go_at_call 19; (with_reducible refine (sOrderIn_any _ _ _ _ _).mono ?_); rintro e w' ⟨rfl, hb⟩; obtain ⟨HB, hz0, hz, hc, hf⟩ := bst (w0 := w) (by go_grown) hb; clear hb; (try simp at hz); (first | ((refine HS.g5 (m := w'.heap.size) ?_ ?_); (focus omega); intro HS) | ((refine HS.g4 (m := w'.heap.size) ?_ ?_); (focus omega); intro HS) | ((refine HS.g3 (m := w'.heap.size) ?_ ?_); (focus omega); intro HS) | ((refine HS.g2 (m := w'.heap.size) ?_ ?_); (focus omega); intro HS) | ((refine HS.g1 (m := w'.heap.size) ?_ ?_); (focus omega); intro HS) | ((refine HS.g0 (m := w'.heap.size) ?_ ?_); (focus omega); intro HS)); have HU := HS; simp only [AllLt] at HU) | (go_at_call 20; (with_reducible refine (iOrderIn_any _ _ _ _ _ (HT.out.below (by go_grown))).mono ?_); rintro e w' ⟨rfl, hb⟩; obtain ⟨HB, hz0, hz, hc, hf⟩ := bst (w0 := w) (by go_grown) hb; clear hb; (try simp at hz); (first | ((refine HS.g5 (m := w'.heap.size) ?_ ?_); (focus omega); intro HS) | ((refine HS.g4 (m := w'.heap.size) ?_ ?_); (focus omega); intro HS) | ((refine HS.g3 (m := w'.heap.size) ?_ ?_); (focus omega); intro HS) | ((refine HS.g2 (m := w'.heap.size) ?_ ?_); (focus omega); intro HS) | ((refine HS.g1 (m := w'.heap.size) ?_ ?_); (focus omega); intro HS) | ((refine HS.g0 (m := w'.heap.size) ?_ ?_); (focus omega); intro HS)); have HU := HS; simp only [AllLt] at HU))
    go_ret
    exact ⟨rfl, by (repeat' (first | (with_reducible exact Below.refl _ _) | (with_reducible refine Below.setCell ?_ ?_ _) | (with_reducible refine below_drewN' ?_ _) | (with_reducible refine below_drew' ?_) | (with_reducible refine Below.alloc ?_ ?_ _) | (with_reducible assumption) | go_size))⟩
  · have HS := AllLt.start w; have hn2 := lt2; have hn3 := lt3; have hn4 := lt4; go_enter Tryd.func4, Tryd.ntmps4
    go_wp2_with (first | (go_at_call 15; (with_reducible refine (szPN_off a00 a01 hs w01 _).mono ?_); rintro e w' ⟨rfl, hb⟩; obtain ⟨HB, hz0, hz, hc, hf⟩ := bst (w0 := w) (by go_grown) hb; clear hb; (try simp at hz); (first | ((refine HS.g5 (m := w'.heap.size) ?_ ?_); (focus omega); intro HS) | ((refine HS.g4 (m := w'.heap.size) ?_ ?_); (focus omega); intro HS) | ((refine HS.g3 (m := w'.heap.size) ?_ ?_); (focus omega); intro HS) | ((refine HS.g2 (m := w'.heap.size) ?_ ?_); (focus omega); intro HS) | ((refine HS.g1 (m := w'.heap.size) ?_ ?_); (focus omega); intro HS) | ((refine HS.g0 (m := w'.heap.size) ?_ ?_); (focus omega); intro HS)); have HU := HS; simp only [AllLt] at HU))
    go_ret
    exact ⟨rfl, by (repeat' (first | (with_reducible exact Below.refl _ _) | (with_reducible refine Below.setCell ?_ ?_ _) | (with_reducible refine below_drewN' ?_ _) | (with_reducible refine below_drew' ?_) | (with_reducible refine Below.alloc ?_ ?_ _) | (with_reducible assumption) | go_size))⟩
end Go.Proofs.YtmdgkhebefnfeaaDoor.C
