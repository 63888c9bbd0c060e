/- The draws of networks of some size, of nodes, and of networks that are not valid. -/
import Derived.Test.YtnogdjmciekieabDoorDrwN
import Derived.BigQuiet
namespace Go.Proofs.YtnogdjmciekieabDoor.C
open Go.RowKit
set_option linter.unusedVariables false
set_option linter.unusedSimpArgs false
/-- a valid network -/
def okN (z : Int) (s : ByteArray) : Prop := ∃ (n : Nat) (R : Nat → Nat → Nat), OkR n R ∧ z = (n : Nat) ∧ s = netS n R
set_option maxHeartbeats 1000000 in
theorem l5Some_any (B q m : Nat) (w : World) (h : Rd B w q m) (hm : m ≤ 900000) (hB : B ≤ w.heap.size) :
    Calls Tryd.prog 76 #[.pointer (some ⟨q, 0, none⟩)] w (DrewN okN B q (m + 310) w) := by
  have hq := h.lt
  have HK := hid (Nk.made w 0 ⟨#[]⟩)
  have HS := AllLt.start w; go_enter Tryd.func76, Tryd.ntmps76
  go_wp2_with fail
  refine (num_new B q m _ (fun v => 1 ≤ v ∧ v ≤ 5) [3, 2, 4, 3, 1, 5] 6 _ _ (h.alloc _) (by simp) rfl (by omega) (by omega) (by omega) (by decide)).mono ?_
  rintro e w1 ⟨v, ⟨hv1, hv2⟩, rfl, hR, hW⟩
  obtain ⟨n, rfl⟩ := Int.eq_ofNat_of_zero_le (show 0 ≤ v by omega)
  have HK1 := hid (HK.out.wr hW (by omega))
  have HR1 := hid hR
  have hz1 : w.heap.size + 1 ≤ w1.heap.size := by have := hW.size; simpa using this
  have HW1 := hid ((Wr.alloc q w (.cells #[.int .i64 0, .string ⟨#[]⟩] 24)).trans hW)
  clear hR hW h HK
  go_wp2_with fail
  refine (l5Draw_any B q (m + 1) n (by omega) (by omega) w1 HR1.out (by omega) (by omega)).mono ?_
  rintro e w2 ⟨z, s, ⟨R, hR', rfl, rfl⟩, rfl, hR2, hW2⟩
  have hk := HK1.out.wr hW2 (by omega)
  have r0 := hk.c0
  have r1 := hk.c1
  have rf0 := hk.fr 0
  have rf1 := hk.fr 1
  have HR2 := hid (hR2.mono (show _ ≤ m + 310 by omega))
  have HW2 := hid (HW1.out.trans hW2)
  have HO := hid hR'
  clear hk hR2 hW2 hR'
  go_wp2_with fail
  refine bodyPost_ret (by simp [results, Tryd.results76, go_sem, *]; try rfl) rfl ?_
  exact ⟨_, _, ⟨n, R, HO.out, rfl, rfl⟩, rfl, (HR2.out.setOther hB (by omega) _ _).setOther hB (by omega) _ _, (HW2.out.setNew (Nat.le_refl _) _ _).setNew (Nat.le_refl _) _ _⟩
theorem l5Node_any (B q m : Nat) (w : World) (h : Rd B w q m) (hm : m ≤ 100000000) :
    Calls Tryd.prog 35 #[.pointer (some ⟨q, 0, none⟩)] w (Drew I64 B q (m + 2) w) := by
  have HS := AllLt.start w; go_enter Tryd.func35, Tryd.ntmps35
  go_wp2_with fail
  refine (pick_any B q m _ _ h (by omega) (by omega) (by omega)).mono ?_
  rintro e w1 ⟨k, hk, rfl, hR, hW⟩
  by_cases hk0 : k = 0
  · subst hk0
    go_wp2_with fail
    refine (num_new B q (m + 1) _ I64 [-1, 6, 9223372036854775807] 3 _ _ hR (by simp) rfl (by omega) (by omega) (by omega) (by unfold I64; decide)).mono ?_
    rintro e w2 ⟨v, hv, rfl, hR2, hW2⟩
    have HF : Hid (∀ e w', e = .returned (.int .i64 v) → w2 = w' → Drew I64 B q (m + 2) w e w') := hid fun e w' c1 c2 => Drew.of (hW.trans hW2) (hR2.mono (by omega)) hv c1 c2
    clear hR hW hR2 hW2 h
    go_wp2
    go_ret
    exact HF.out _ _ rfl rfl
  · have b0 : ((k : Int) == 0) = false := by simp; omega
    go_wp2_with fail
    refine (pick_any B q (m + 1) _ _ hR (by omega) (by omega) (by omega)).mono ?_
    rintro e w2 ⟨j, hj, rfl, hR2, hW2⟩
    have HF : Hid (∀ e w', e = .returned (.int .i64 (j : Int)) → w2 = w' → Drew I64 B q (m + 2) w e w') := hid fun e w' c1 c2 => Drew.of (hW.trans hW2) (hR2.mono (by omega)) (by unfold I64; omega) c1 c2
    clear hR hW hR2 hW2 h
    go_wp2
    go_ret
    exact HF.out _ _ rfl rfl
theorem rd_drew {B : Nat} {w : World} {q m : Nat} (h : Rd B w q m) : Rd B w.drew q m := h.below (below_drew' (Below.refl w.heap.size w)) h.lt
theorem wr_drew {q : Nat} {w w' : World} (h : Wr q w w') : Wr q w w'.drew := ⟨h.os, h.tape, h.output, h.size, h.block⟩
set_option maxHeartbeats 4000000 in
set_option maxRecDepth 100000 in
theorem l5Bad_any (B q m : Nat) (n : Nat) (s : ByteArray) (h1 : 1 ≤ n) (h6 : n ≤ 6) (hs : s.size = 4 * (n * n)) (w : World) (h : Rd B w q m) (hm : m ≤ 900000) (hB : B ≤ w.heap.size) :
    Calls Tryd.prog 75 #[.pointer (some ⟨q, 0, none⟩), .agg #[.int .i64 n, .string s]] w (DrewN (fun z _ => I64 z) B q (m + 2) w) := by
  have hq := h.lt
  have HN := hid (Nk.made w n s)
  have HK := hid (Nk.made (w.alloc (.cells #[.int .i64 n, .string s] 24)) 0 ⟨#[]⟩)
  rw [World.size_alloc] at HK
  have HN2 := hid (nk_alloc HN.out (.cells #[.int .i64 0, .string ⟨#[]⟩] 24))
  have HR0 := hid ((h.alloc (.cells #[.int .i64 n, .string s] 24)).alloc (.cells #[.int .i64 0, .string ⟨#[]⟩] 24))
  have HW0 := hid ((Wr.alloc q w (.cells #[.int .i64 n, .string s] 24)).trans (Wr.alloc q _ (.cells #[.int .i64 0, .string ⟨#[]⟩] 24)))
  have h36 : n * n ≤ 36 := Nat.mul_le_mul h6 h6
  have h4 : 4 ≤ s.size := by have : 1 ≤ n * n := Nat.mul_pos h1 h1; omega
  have h144 : s.size ≤ 144 := by omega
  have h16 : 2 ≤ n → 16 ≤ s.size := fun h => by have : 4 ≤ n * n := Nat.mul_le_mul h h; omega
  clear h hs HN
  have HS := AllLt.start w; go_enter Tryd.func75, Tryd.ntmps75
  go_upto_region 1 with fail
  have hz2 : ((w.alloc (.cells #[.int .i64 n, .string s] 24)).alloc (.cells #[.int .i64 0, .string ⟨#[]⟩] 24)).heap.size = w.heap.size + 1 + 1 := by simp only [World.size_alloc]
  generalize (w.alloc (.cells #[.int .i64 n, .string s] 24)).alloc (.cells #[.int .i64 0, .string ⟨#[]⟩] 24) = w0 at *
  go_wp2_with fail
  refine (pick_any B q m _ _ HR0.out (by omega) (by omega) (by omega)).mono ?_
  rintro e w1 ⟨k, hk, rfl, hR, hW⟩
  have HN1 := hid (HN2.out.wr hW (by omega))
  have HK1 := hid (HK.out.wr hW (by omega))
  have HR1 := hid hR
  have HW1 := hid (HW0.out.trans hW)
  have hz1 : w.heap.size + 1 + 1 ≤ w1.heap.size := by have := hW.size; omega
  clear hR hW HN2 HK HR0 HW0 hz2
  have n0 := HN1.out.c0
  have n1 := HN1.out.c1
  have nf0 := HN1.out.fr 0
  have nf1 := HN1.out.fr 1
  have r0 := HK1.out.c0
  have r1 := HK1.out.c1
  have rf0 := HK1.out.fr 0
  have rf1 := HK1.out.fr 1
  have d1 : ¬ w.heap.size = w.heap.size + 1 := by omega
  have d2 : ¬ w.heap.size + 1 = w.heap.size := by omega
  by_cases k0 : k = 0
  · subst k0
    have hI : I64 ((n : Int) + 1) := by unfold I64; omega
    go_wp2_with fail
    refine (num_new B q (m + 1) _ I64 [0, -1, 7, (n : Int) + 1, 9223372036854775807] 5 _ _ HR1.out (by simp) rfl (by omega) (by omega) (by omega) (fun i hi => by
      have : i = 0 ∨ i = 1 ∨ i = 2 ∨ i = 3 ∨ i = 4 := by omega
      rcases this with rfl | rfl | rfl | rfl | rfl <;> first | exact hI | (simp [I64]; done))).mono ?_
    rintro e w2 ⟨v, hv, rfl, hR2, hW2⟩
    have hn := HN1.out.wr hW2 (by omega)
    have hk := HK1.out.wr hW2 (by omega)
    clear n0 n1 nf0 nf1 r0 r1 rf0 rf1
    have n0 := hn.c0
    have n1 := hn.c1
    have nf0 := hn.fr 0
    have nf1 := hn.fr 1
    have r0 := hk.c0
    have r1 := hk.c1
    have rf0 := hk.fr 0
    have rf1 := hk.fr 1
    have HV := hid hv
    have HR2 := hid hR2
    have HW2 := hid (HW1.out.trans hW2)
    clear hn hk hR2 hW2 hv
    go_wp2_with fail
    refine bodyPost_ret (by simp [results, Tryd.results75, go_sem, *]; try rfl) rfl ?_
    exact ⟨_, _, HV.out, rfl, (by (repeat' (first | exact HR2.out | refine Rd.setOther ?_ ?_ ?_ _ _ | omega))), (by (repeat' (first | exact HW2.out | refine Wr.setNew ?_ ?_ _ _ | omega)))⟩
  · have b0 : ((k : Int) == 0) = false := by simp; omega
    have HI : Hid (I64 (n : Int)) := hid (by unfold I64; omega)
    have HR2 := hid (HR1.out.mono (show _ ≤ m + 2 by omega))
    have i4 : (4 : Int) ≤ (s.size : Int) := by omega
    have i1 : (1 : Int) ≤ (s.size : Int) := by omega
    by_cases k1 : k = 1
    · subst k1
      go_wp2_with fail
      refine bodyPost_ret (by simp [results, Tryd.results75, go_sem, *]; try rfl) rfl ?_
      exact ⟨_, _, HI.out, rfl, (by (repeat' (first | exact HR2.out | refine Rd.setOther ?_ ?_ ?_ _ _ | omega))), (by (repeat' (first | exact HW1.out | refine Wr.setNew ?_ ?_ _ _ | omega)))⟩
    · have b1 : ((k : Int) == 1) = false := by simp; omega
      by_cases k2 : k = 2
      · subst k2
        go_wp2_with fail
        refine bodyPost_ret (by simp [results, Tryd.results75, go_sem, *]; try rfl) rfl ?_
        exact ⟨_, _, HI.out, rfl, (by (repeat' (first | exact HR2.out | refine Rd.setOther ?_ ?_ ?_ _ _ | omega))), (by (repeat' (first | exact HW1.out | refine Wr.setNew ?_ ?_ _ _ | omega)))⟩
      · have b2 : ((k : Int) == 2) = false := by simp; omega
        by_cases k3 : k = 3
        · subst k3
          go_wp2_with fail
          refine bodyPost_ret (by simp [results, Tryd.results75, go_sem, *]; try rfl) rfl ?_
          exact ⟨_, _, HI.out, rfl, (by (repeat' (first | exact HR2.out | refine Rd.setOther ?_ ?_ ?_ _ _ | omega))), (by (repeat' (first | exact HW1.out | refine Wr.setNew ?_ ?_ _ _ | omega)))⟩
        · have b3 : ((k : Int) == 3) = false := by simp; omega
          by_cases k4 : k = 4
          · subst k4
            by_cases hn : 2 ≤ n
            · have hg : decide ((1 : Int) < (n : Int)) = true := by simp; omega
              have h16' := h16 hn
              have j0 : (0 : Int) ≤ (s.size : Int) - 8 := by omega
              have j1 : (s.size : Int) - 8 ≤ (s.size : Int) := by omega
              have j2 : (0 : Int) ≤ (s.size : Int) - 4 := by omega
              have j3 : (s.size : Int) - 4 ≤ (s.size : Int) := by omega
              have jw : IntKind.i64.wrap ((s.size : Int) - 8) = (s.size : Int) - 8 := IntWalk.i64_in _ (by omega)
              have jv : IntKind.i64.wrap ((s.size : Int) - 4) = (s.size : Int) - 4 := IntWalk.i64_in _ (by omega)
              go_upto_region 12 with fail
              go_region
              all_goals
                go_wp2_with fail
                refine bodyPost_ret (by simp [results, Tryd.results75, go_sem, *]; try rfl) rfl ?_
                exact ⟨_, _, HI.out, rfl, (by (repeat' (first | exact HR2.out | (with_reducible refine rd_drew ?_) | refine Rd.setOther ?_ ?_ ?_ _ _ | omega))), (by (repeat' (first | exact HW1.out | (with_reducible refine wr_drew ?_) | refine Wr.setNew ?_ ?_ _ _ | omega)))⟩
            · have hg : decide ((1 : Int) < (n : Int)) = false := by simp; omega
              go_wp2_with fail
              refine bodyPost_ret (by simp [results, Tryd.results75, go_sem, *]; try rfl) rfl ?_
              exact ⟨_, _, HI.out, rfl, (by (repeat' (first | exact HR2.out | refine Rd.setOther ?_ ?_ ?_ _ _ | omega))), (by (repeat' (first | exact HW1.out | refine Wr.setNew ?_ ?_ _ _ | omega)))⟩
          · have b4 : ((k : Int) == 4) = false := by simp; omega
            go_wp2_with fail
            refine bodyPost_ret (by simp [results, Tryd.results75, go_sem, *]; try rfl) rfl ?_
            exact ⟨_, _, HI.out, rfl, (by (repeat' (first | exact HR2.out | refine Rd.setOther ?_ ?_ ?_ _ _ | omega))), (by (repeat' (first | exact HW1.out | refine Wr.setNew ?_ ?_ _ _ | omega)))⟩
set_option maxHeartbeats 1000000 in
theorem l5Get_any (B q m : Nat) (w : World) (h : Rd B w q m) (hm : m ≤ 800000) (hB : B ≤ w.heap.size) :
    Calls Tryd.prog 34 #[.pointer (some ⟨q, 0, none⟩)] w (DrewN (fun z _ => I64 z) B q (m + 312) w) := by
  have hq := h.lt
  have HK := hid (Nk.made w 0 ⟨#[]⟩)
  have HR0 := hid (h.alloc (.cells #[.int .i64 0, .string ⟨#[]⟩] 24))
  have HW0 := hid (Wr.alloc q w (.cells #[.int .i64 0, .string ⟨#[]⟩] 24))
  clear h
  have HS := AllLt.start w; go_enter Tryd.func34, Tryd.ntmps34
  go_wp2_with fail
  refine (l5Some_any B q m _ HR0.out (by omega) (by simp; omega)).mono ?_
  rintro e w1 ⟨z, s, ⟨n, R, hR', rfl, rfl⟩, rfl, hR, hW⟩
  have HK1 := hid (HK.out.wr hW (by omega))
  have HR1 := hid hR
  have hz1 : w.heap.size + 1 ≤ w1.heap.size := by have := hW.size; simpa using this
  have HW1 := hid (HW0.out.trans hW)
  clear hR hW HK HR0 HW0
  go_wp2_with fail
  refine (l5Bad_any B q (m + 310) n _ hR'.pos hR'.le (netS_size n R) w1 HR1.out (by omega) (by omega)).mono ?_
  rintro e w2 ⟨z, s, hz, rfl, hR2, hW2⟩
  have hk := HK1.out.wr hW2 (by omega)
  have r0 := hk.c0
  have r1 := hk.c1
  have rf0 := hk.fr 0
  have rf1 := hk.fr 1
  have HR2 := hid (hR2.mono (show _ ≤ m + 312 by omega))
  have HW2 := hid (HW1.out.trans hW2)
  have HZ := hid hz
  clear hk hR2 hW2 hz
  go_wp2_with fail
  refine bodyPost_ret (by simp [results, Tryd.results34, go_sem, *]; try rfl) rfl ?_
  exact ⟨_, _, HZ.out, rfl, (HR2.out.setOther hB (by omega) _ _).setOther hB (by omega) _ _, (HW2.out.setNew (Nat.le_refl _) _ _).setNew (Nat.le_refl _) _ _⟩
end Go.Proofs.YtnogdjmciekieabDoor.C
