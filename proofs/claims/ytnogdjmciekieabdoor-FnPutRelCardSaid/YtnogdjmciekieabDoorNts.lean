/- Two networks: the program's networks changed by closures that capture, what both allow, whether one lies within the other. -/
import Derived.Test.YtnogdjmciekieabDoorNetC
import Derived.Deep.RegionHeld3
import Derived.Test.YtnogdjmciekieabDoorNetN
namespace Go.Proofs.YtnogdjmciekieabDoor.C
open Go.RowKit
set_option linter.unusedVariables false
set_option linter.unusedSimpArgs false

theorem nk_al {w : World} {g : Nat} {z : Int} {s : ByteArray} (h : Nk w g z s) (o : Obj) : Nk (w.alloc o) g z s := (Below.heap_alloc w o g h.lt).trans h
/-- A network written whole, as the walk of a drawn region meets it. -/
theorem NB.store {w : World} {g n : Nat} {M : Nat → Nat → Nat} (h : NB w g n M) (m : Nat) (N : Nat → Nat → Nat) : (storeCells ⟨g, 0, none⟩ (netV m N).toList).run Tryd.prog w = .ok () (w.setRow g (netV m N)) := by
  have h1 := run_storeCells_from (P := Tryd.prog) g 63 (netV m N).toList 0 (netV n M) w h (by simp [netV_size]) (fun v hv => Array.all_eq_true_iff_forall_mem.1 (netV_one m N) v (by simpa using hv))
  simpa using h1
/-- What is returned as two networks and a value. -/
theorem res_nets {fn : Func} {p q v : Tmp} (h : fn.results = #[.cell p 63, .cell q 63, .tmp v]) (tmps : Array Value) (w : World) (g g' n n' : Nat) (M M' : Nat → Nat → Nat) (y : Value) (hp : tmps.getD p undef = .pointer (some ⟨g, 0, none⟩)) (hq : tmps.getD q undef = .pointer (some ⟨g', 0, none⟩)) (hv : tmps.getD v undef = y) (hg : NB w g n M) (hg' : NB w g' n' M') :
    (results fn tmps).run Tryd.prog w = .ok (.tuple #[.agg (netV n M), .agg (netV n' M'), y]) w := by
  obtain ⟨fs, hus⟩ := nUnd
  have hp' : tmps[p]?.getD undef = .pointer (some ⟨g, 0, none⟩) := by simpa using hp
  have hq' : tmps[q]?.getD undef = .pointer (some ⟨g', 0, none⟩) := by simpa using hq
  have hv' : tmps[v]?.getD undef = y := by simpa using hv
  simp only [results, h]
  simp [asAddr, hp', hq', hv', Result.andThen, run_loadVar_row w g _ _ _ _ _ hg hus rfl (nInfo2 n M), run_loadVar_row w g' _ _ _ _ _ hg' hus rfl (nInfo2 n' M')]
/-- What two networks are read as. -/
def NetsPost (o : Bool) (n : Nat) (R : Nat → Nat → Nat) (m : Nat) (S : Nat → Nat → Nat) (w : World) (e : Ending) (w' : World) : Prop :=
  (o = true → e = .returned (.tuple #[.agg (netV n R), .agg (netV m S), .bool true])) ∧ (o = false → e = .returned (.tuple #[.agg (netV 0 fun _ _ => 0), .agg (netV 0 fun _ _ => 0), .bool false])) ∧ Below w.heap.size w w'
set_option maxHeartbeats 4000000 in
set_option maxRecDepth 100000 in
theorem networksOf_gen (z y : Int) (s t : ByteArray) (n1 n2 : Nat) (R1 R2 : Nat → Nat → Nat) (o1 o2 : Bool)
    (H1 : ∀ w, TB w → Calls Tryd.prog 36 #[.agg #[.int .i64 z, .string s]] w fun e w' => e = .returned (.tuple #[.agg (netV n1 R1), .bool o1]) ∧ Below w.heap.size w w')
    (H2 : ∀ w, TB w → Calls Tryd.prog 36 #[.agg #[.int .i64 y, .string t]] w fun e w' => e = .returned (.tuple #[.agg (netV n2 R2), .bool o2]) ∧ Below w.heap.size w w') (w : World) (hT : TB w) :
    Calls Tryd.prog 47 #[.agg #[.int .i64 z, .string s], .agg #[.int .i64 y, .string t]] w (NetsPost (o1 && o2 && (n1 == n2)) n1 R1 n2 R2 w) := by
  have HT0 := hid hT
  have H1 := hid H1
  have H2 := hid H2
  clear hT
  have hz2 : ((((w.alloc (.cells #[.int .i64 z, .string s] 24)).alloc (.cells #[.int .i64 y, .string t] 24)).alloc (.cells (netV 0 fun _ _ => 0) 63)).alloc (.cells (netV 0 fun _ _ => 0) 63)).heap.size = w.heap.size + 1 + 1 + 1 + 1 := by simp only [World.size_alloc]
  have HB2 := hid (((((Below.refl w.heap.size w).alloc (Nat.le_refl _) (.cells #[.int .i64 z, .string s] 24)).alloc (by simp) (.cells #[.int .i64 y, .string t] 24)).alloc (by simp; omega) (.cells (netV 0 fun _ _ => 0) 63)).alloc (by simp; omega) (.cells (netV 0 fun _ _ => 0) 63))
  have HKm := hid (nk_al (nk_al (nk_al (Nk.made w z s) (.cells #[.int .i64 y, .string t] 24)) (.cells (netV 0 fun _ _ => 0) 63)) (.cells (netV 0 fun _ _ => 0) 63))
  have HKn := hid (nk_al (nk_al (Nk.made (w.alloc (.cells #[.int .i64 z, .string s] 24)) y t) (.cells (netV 0 fun _ _ => 0) 63)) (.cells (netV 0 fun _ _ => 0) 63))
  have HN4 := hid ((NB.made ((w.alloc (.cells #[.int .i64 z, .string s] 24)).alloc (.cells #[.int .i64 y, .string t] 24)) 0 fun _ _ => 0).alloc (.cells (netV 0 fun _ _ => 0) 63))
  have HN5 := hid (NB.made (((w.alloc (.cells #[.int .i64 z, .string s] 24)).alloc (.cells #[.int .i64 y, .string t] 24)).alloc (.cells (netV 0 fun _ _ => 0) 63)) 0 fun _ _ => 0)
  simp only [World.size_alloc] at HKn HN4 HN5
  have HS := AllLt.start w; go_enter Tryd.func47, Tryd.ntmps47
  go_upto_region 1 with (refine al_net rfl rfl ?_)
  generalize (((w.alloc (.cells #[.int .i64 z, .string s] 24)).alloc (.cells #[.int .i64 y, .string t] 24)).alloc (.cells (netV 0 fun _ _ => 0) 63)).alloc (.cells (netV 0 fun _ _ => 0) 63) = w2 at *
  have k0 := HKm.out.c0
  have k1 := HKm.out.c1
  go_wp2_with fail
  (with_reducible refine (H1.out _ (HT0.out.below HB2.out)).mono ?_)
  rintro e w3 ⟨rfl, hb⟩
  have hz3 : w2.heap.size ≤ w3.heap.size := hb.size
  have HB3 := hid (below_setRow ((HB2.out.trans (hb.mono HB2.out.size)).alloc (Nat.le_trans HB2.out.size hz3) (.cells (netV 0 fun _ _ => 0) 63)) (Nat.le_trans HB2.out.size hz3) (netV n1 R1))
  have HX := hid (below_setRow (hb.alloc hz3 (.cells (netV 0 fun _ _ => 0) 63)) hz3 (netV n1 R1))
  have HKn3 := hid (HKn.out.below HX.out HKn.out.lt)
  have HN43 := hid (HN4.out.below HX.out HN4.out.lt)
  have HN53 := hid (HN5.out.below HX.out HN5.out.lt)
  have HN7 := hid ((NB.made w3 0 fun _ _ => 0).row n1 R1)
  clear hb k0 k1 HX
  go_upto_region 2 with (first | refine al_net rfl rfl ?_ | refine st_net rfl _ _ rfl rfl rfl (NB.made w3 0 fun _ _ => 0) ?_)
  have hz4 : ((w3.alloc (.cells (netV 0 fun _ _ => 0) 63)).setRow w3.heap.size (netV n1 R1)).heap.size = w3.heap.size + 1 := by simp
  generalize (w3.alloc (.cells (netV 0 fun _ _ => 0) 63)).setRow w3.heap.size (netV n1 R1) = w4 at *
  have k0 := HKn3.out.c0
  have k1 := HKn3.out.c1
  go_wp2_with fail
  (with_reducible refine (H2.out _ (HT0.out.below HB3.out)).mono ?_)
  rintro e w5 ⟨rfl, hb⟩
  have hz5 : w4.heap.size ≤ w5.heap.size := hb.size
  have HB5 := hid (below_setRow ((HB3.out.trans (hb.mono HB3.out.size)).alloc (Nat.le_trans HB3.out.size hz5) (.cells (netV 0 fun _ _ => 0) 63)) (Nat.le_trans HB3.out.size hz5) (netV n2 R2))
  have HX := hid (below_setRow (hb.alloc hz5 (.cells (netV 0 fun _ _ => 0) 63)) hz5 (netV n2 R2))
  have HN45 := hid (HN43.out.below HX.out HN43.out.lt)
  have HN55 := hid (HN53.out.below HX.out HN53.out.lt)
  have HN75 := hid (HN7.out.below HX.out HN7.out.lt)
  have HN9 := hid ((NB.made w5 0 fun _ _ => 0).row n2 R2)
  clear hb k0 k1 HX
  go_upto_region 3 with (first | refine al_net rfl rfl ?_ | refine st_net rfl _ _ rfl rfl rfl (NB.made w5 0 fun _ _ => 0) ?_)
  have hz6 : ((w5.alloc (.cells (netV 0 fun _ _ => 0) 63)).setRow w5.heap.size (netV n2 R2)).heap.size = w5.heap.size + 1 := by simp
  generalize (w5.alloc (.cells (netV 0 fun _ _ => 0) 63)).setRow w5.heap.size (netV n2 R2) = w6 at *
  have q7 := HN75.out.cell0
  have q9 := HN9.out.cell0
  have e1 : ¬ w.heap.size + 1 + 1 = w.heap.size + 1 + 1 + 1 := by omega
  have e2 : ¬ w.heap.size + 1 + 1 + 1 = w.heap.size + 1 + 1 := by omega
  have HB4r := hid (below_setRow (below_setRow HB5.out (show w.heap.size ≤ w.heap.size + 1 + 1 by omega) (netV 0 fun _ _ => 0)) (show w.heap.size ≤ w.heap.size + 1 + 1 + 1 by omega) (netV 0 fun _ _ => 0))
  cases o1
  · go_upto_region 4 with fail
    go_wp2_with (first | refine bu_net rfl rfl ?_ | refine st_net rfl _ _ rfl rfl rfl HN45.out ?_ | refine st_net rfl _ _ rfl rfl rfl (HN55.out.rowFar e2 _) ?_)
    refine bodyPost_ret (res_nets rfl _ _ _ _ _ _ _ _ _ rfl rfl rfl ((HN45.out.row 0 _).rowFar e1 _) ((HN55.out.rowFar e2 _).row 0 _)) rfl ?_
    exact ⟨fun h => by simp at h, fun _ => rfl, HB4r.out⟩
  · cases o2
    · go_upto_region 4 with fail
      go_wp2_with (first | refine bu_net rfl rfl ?_ | refine st_net rfl _ _ rfl rfl rfl HN45.out ?_ | refine st_net rfl _ _ rfl rfl rfl (HN55.out.rowFar e2 _) ?_)
      refine bodyPost_ret (res_nets rfl _ _ _ _ _ _ _ _ _ rfl rfl rfl ((HN45.out.row 0 _).rowFar e1 _) ((HN55.out.rowFar e2 _).row 0 _)) rfl ?_
      exact ⟨fun h => by simp at h, fun _ => rfl, HB4r.out⟩
    · by_cases hn : n1 = n2
      · subst hn
        have HB5r := hid (below_setRow (below_setRow (below_drew' HB5.out) (show w.heap.size ≤ w.heap.size + 1 + 1 by omega) (netV n1 R1)) (show w.heap.size ≤ w.heap.size + 1 + 1 + 1 by omega) (netV n1 R2))
        have s4 := NB.store (w := w6.drew) HN45.out n1 R1
        have s5 := NB.store (w := w6.drew.setRow (w.heap.size + 1 + 1) (netV n1 R1)) (NB.rowFar (w := w6.drew) HN55.out e2 (netV n1 R1)) n1 R2
        have HR4 := hid (NB.rowFar (NB.row (w := w6.drew) HN45.out n1 R1) e1 (netV n1 R2))
        have HR5 := hid (NB.row (NB.rowFar (w := w6.drew) HN55.out e2 (netV n1 R1)) n1 R2)
        have x4 : w3.heap.size ≠ w.heap.size + 1 + 1 := by omega
        have x5 : w5.heap.size ≠ w.heap.size + 1 + 1 := by omega
        have x6 : w3.heap.size ≠ w.heap.size + 1 + 1 + 1 := by omega
        have x7 : w5.heap.size ≠ w.heap.size + 1 + 1 + 1 := by omega
        go_upto_region 5 with fail
        go_region_held3 (fun wx => ((do let b ← isAgg 63; Next.value <$> (if b = true then (do let k ← sizeOf 63; Value.agg <$> loadCellsFrom ⟨w3.heap.size, 0, none⟩ 0 k #[]) else Go.load ⟨w3.heap.size, 0, none⟩) : Sem Next)).run Tryd.prog wx = .ok (.value (.agg (netV n1 R1))) wx ∧ ((do let b ← isAgg 63; Next.value <$> (if b = true then (do let k ← sizeOf 63; Value.agg <$> loadCellsFrom ⟨w5.heap.size, 0, none⟩ 0 k #[]) else Go.load ⟨w5.heap.size, 0, none⟩) : Sem Next)).run Tryd.prog wx = .ok (.value (.agg (netV n1 R2))) wx) (first | exact ⟨NB.run HN75.out, NB.run HN9.out⟩ | exact ⟨NB.run (NB.rowFar (w := w6.drew) HN75.out x4 _), NB.run (NB.rowFar (w := w6.drew) HN9.out x5 _)⟩ | exact ⟨NB.run (NB.rowFar (NB.rowFar (w := w6.drew) HN75.out x4 _) x6 _), NB.run (NB.rowFar (NB.rowFar (w := w6.drew) HN9.out x5 _) x7 _)⟩) (fail)
        all_goals
          go_wp2_with fail
          refine bodyPost_ret (res_nets rfl _ _ _ _ _ _ _ _ _ rfl rfl rfl HR4.out HR5.out) rfl ?_
          exact ⟨fun _ => rfl, fun h => by simp at h, HB5r.out⟩
      · have hq : ((n1 : Int) == (n2 : Int)) = false := by rw [beq_eq_false_iff_ne]; omega
        have hq2 : (n1 == n2) = false := by rw [beq_eq_false_iff_ne]; exact hn
        go_upto_region 4 with fail
        go_wp2_with (first | refine bu_net rfl rfl ?_ | refine st_net rfl _ _ rfl rfl rfl HN45.out ?_ | refine st_net rfl _ _ rfl rfl rfl (HN55.out.rowFar e2 _) ?_)
        refine bodyPost_ret (res_nets rfl _ _ _ _ _ _ _ _ _ rfl rfl rfl ((HN45.out.row 0 _).rowFar e1 _) ((HN55.out.rowFar e2 _).row 0 _)) rfl ?_
        exact ⟨fun h => by simp [hq2] at h, fun _ => rfl, HB4r.out⟩
theorem networksOf_yes (n : Nat) (R S : Nat → Nat → Nat) (hR : OkR n R) (hS : OkR n S) (w : World) (hT : TB w) :
    Calls Tryd.prog 47 #[.agg #[.int .i64 n, .string (netS n R)], .agg #[.int .i64 n, .string (netS n S)]] w fun e w' => e = .returned (.tuple #[.agg (netV n R), .agg (netV n S), .bool true]) ∧ Below w.heap.size w w' :=
  (networksOf_gen n n _ _ n n R S true true (fun w h => networkOf_yes n R hR w h) (fun w h => networkOf_yes n S hS w h) w hT).mono fun e w' h => ⟨h.1 (by simp), h.2.2⟩
/-- two valid networks of as many nodes -/
noncomputable def botB (z : Int) (s : ByteArray) (y : Int) (t : ByteArray) : Bool := NV z s && NV y t && (z == y)
theorem botB_cases (z : Int) (s : ByteArray) (y : Int) (t : ByteArray) : botB z s y t = false ∨ ∃ (n : Nat) (R S : Nat → Nat → Nat), OkR n R ∧ OkR n S ∧ z = (n : Nat) ∧ y = (n : Nat) ∧ s = netS n R ∧ t = netS n S := by
  cases h : botB z s y t
  · exact .inl rfl
  · right
    simp only [botB, Bool.and_eq_true, beq_iff_eq] at h
    obtain ⟨⟨h1, h2⟩, rfl⟩ := h
    obtain ⟨n, R, hR, hz, hs⟩ := nv_iff.1 h1
    obtain ⟨m, S, hS, hz', ht⟩ := nv_iff.1 h2
    obtain rfl : n = m := by omega
    exact ⟨n, R, S, hR, hS, hz, hz, hs, ht⟩
theorem botB_in {n : Nat} {R S : Nat → Nat → Nat} (hR : OkR n R) (hS : OkR n S) : botB n (netS n R) n (netS n S) = true := by simp [botB, nv_net hR, nv_net hS]
theorem networksOf_no (z : Int) (s : ByteArray) (y : Int) (t : ByteArray) (h : botB z s y t = false) (w : World) (hT : TB w) :
    Calls Tryd.prog 47 #[.agg #[.int .i64 z, .string s], .agg #[.int .i64 y, .string t]] w fun e w' => e = .returned (.tuple #[.agg (netV 0 fun _ _ => 0), .agg (netV 0 fun _ _ => 0), .bool false]) ∧ Below w.heap.size w w' := by
  have K : ∀ (z : Int) (s : ByteArray), ∃ (n : Nat) (R : Nat → Nat → Nat) (o : Bool), (∀ w, TB w → Calls Tryd.prog 36 #[.agg #[.int .i64 z, .string s]] w fun e w' => e = .returned (.tuple #[.agg (netV n R), .bool o]) ∧ Below w.heap.size w w') ∧ (o = true → NV z s = true ∧ z = (n : Nat)) := by
    intro z s
    rcases nv_cases z s with h | ⟨n, R, hR, rfl, rfl⟩
    · exact ⟨0, fun _ _ => 0, false, fun w hT => networkOf_no z s h w hT, fun h => by cases h⟩
    · exact ⟨n, R, true, fun w hT => networkOf_yes n R hR w hT, fun _ => ⟨nv_net hR, rfl⟩⟩
  obtain ⟨n1, R1, o1, H1, G1⟩ := K z s
  obtain ⟨n2, R2, o2, H2, G2⟩ := K y t
  refine (networksOf_gen z y s t n1 n2 R1 R2 o1 o2 H1 H2 w hT).mono fun e w' hh => ⟨hh.2.1 ?_, hh.2.2⟩
  cases o1
  · rfl
  · cases o2
    · rfl
    · obtain ⟨a1, b1⟩ := G1 rfl
      obtain ⟨a2, b2⟩ := G2 rfl
      simp only [Bool.and_self, Bool.true_and, beq_eq_false_iff_ne]
      intro e
      subst e
      rw [botB, a1, a2, b1, b2] at h
      simp at h
theorem and_same (r s : Nat) (hr : r < 8192) (hs : s < 8192) : (bits .and .i64 (r : Int) (s : Int) == (r : Int)) = decide (r &&& s = r) := by
  rw [i64_and r s hr hs, Bool.eq_iff_iff]
  simp only [beq_iff_eq, decide_eq_true_eq]
  omega
theorem rwithin_any (r s : Nat) (hr : r < 8192) (hs : s < 8192) (w : World) :
    Calls Tryd.prog 90 #[.int .i64 r, .int .i64 s] w fun e w' => e = .returned (.bool (decide (r &&& s = r))) ∧ w = w' := by
  have HE := hid (and_same r s hr hs)
  have HS := AllLt.start w; go_enter Tryd.func90, Tryd.ntmps90
  go_wp2
  go_ret
  exact ⟨ret_bool HE.out, rfl⟩
set_option maxHeartbeats 4000000 in
set_option maxRecDepth 100000 in
theorem nwithin_any (n : Nat) (h6 : n ≤ 6) (R S : Nat → Nat → Nat) (hR : ∀ i k, R i k < 8192) (hS : ∀ i k, S i k < 8192) (w : World) :
    Calls Tryd.prog 48 #[.agg (netV n R), .agg (netV n S)] w fun e w' => e = .returned (.bool (witB R S (edL n))) ∧ Below w.heap.size w w' := by
  have HN0 := hid ((NB.made w n R).alloc (.cells (netV n S) 63))
  have HM0 := hid (show NB ((w.alloc (.cells (netV n R) 63)).alloc (.cells (netV n S) 63)) (w.heap.size + 1) n S by
    have h := NB.made (w.alloc (.cells (netV n R) 63)) n S
    rw [World.size_alloc] at h
    exact h)
  have HB0 := hid (((Below.refl w.heap.size w).alloc (Nat.le_refl _) (.cells (netV n R) 63)).alloc (by simp) (.cells (netV n S) 63))
  have hfd := fld1
  have HR := hid hR
  have HSS := hid hS
  clear hR hS
  have HS := AllLt.start w; go_enter Tryd.func48, Tryd.ntmps48
  go_upto_region 1 with fail
  generalize (w.alloc (.cells (netV n R) 63)).alloc (.cells (netV n S) 63) = w1 at *
  go_wp2_with (refine ld_net rfl _ rfl rfl HN0.out ?_)
  (with_reducible refine (edges_any n h6 R _).mono ?_)
  rintro e w2 ⟨⟨v, rfl, hown⟩, hb⟩
  have HE := Es.of_own hown
  obtain ⟨a, cap, rfl, hE⟩ := HE
  have HE2 := hid hE
  have HM2 := hid (HM0.out.below' hb)
  have HB2 := hid (HB0.out.trans (hb.mono HB0.out.size))
  have hl15 := edL_len h6
  clear hown hE hb HN0 HM0 HB0
  go_wp2_with fail
  go_loopw [10] (fun a wr => ∃ j : Nat, j ≤ (edL n).length ∧ a = .int .i64 j ∧ Hid (∀ q, q < j → R ((edL n).getD q (0, 0)).1 ((edL n).getD q (0, 0)).2 &&& S ((edL n).getD q (0, 0)).1 ((edL n).getD q (0, 0)).2 = R ((edL n).getD q (0, 0)).1 ((edL n).getD q (0, 0)).2) ∧ Hid (NB wr (w.heap.size + 1) n S) ∧ Hid (Below w2.heap.size w2 wr)) (fun a _ => (edL n).length - (intOf a).toNat)
  case atStart => exact ⟨0, by omega, rfl, hid (fun j hj => by omega), HM2, hid (Below.refl _ _)⟩
  case round =>
    obtain ⟨j, hj, rfl, HG, HN3, HB3⟩ := hrel
    clear HS
    obtain ⟨wj, rfl⟩ : ∃ wj : World, wj = wr := ⟨_, rfl⟩
    by_cases hjl : j < (edL n).length
    · have hdj : decide ((j : Int) < ((edL n).length : Int)) = true := by simp; omega
      have hdk : decide (j < (edL n).length) = true := by simp; omega
      obtain ⟨g, rfl, hg, c0, c1, c2⟩ := HE2.out j hjl
      have HAT := hid (edL_at hjl)
      have HG2 := hid (show ∀ q, R ((edL n).getD j (0, 0)).1 ((edL n).getD j (0, 0)).2 &&& S ((edL n).getD j (0, 0)).1 ((edL n).getD j (0, 0)).2 = R ((edL n).getD j (0, 0)).1 ((edL n).getD j (0, 0)).2 → q < j + 1 → R ((edL n).getD q (0, 0)).1 ((edL n).getD q (0, 0)).2 &&& S ((edL n).getD q (0, 0)).1 ((edL n).getD q (0, 0)).2 = R ((edL n).getD q (0, 0)).1 ((edL n).getD q (0, 0)).2 from fun q h hq => by
        by_cases eq : q = j
        · rw [eq]; exact h
        · exact HG.out q (by omega))
      have HW := hid (rwithin_any (R ((edL n).getD j (0, 0)).1 ((edL n).getD j (0, 0)).2) (S ((edL n).getD j (0, 0)).1 ((edL n).getD j (0, 0)).2) (HR.out _ _) (HSS.out _ _))
      generalize (edL n).getD j (0, 0) = p at *
      obtain ⟨x, y⟩ := p
      obtain ⟨hxy, hyi⟩ := HAT.out
      simp only at c0 c1 c2 hxy hyi HG2
      have d0 : wj.cell? ⟨g, j * 3, none⟩ = some (.int .i64 (x : Int)) := by rw [HB3.out.cell (p := ⟨g, j * 3, none⟩) hg]; exact c0
      have d1 : wj.cell? ⟨g, j * 3 + 1, none⟩ = some (.int .i64 ((R x y : Nat) : Int)) := by rw [HB3.out.cell (p := ⟨g, j * 3 + 1, none⟩) hg]; exact c1
      have d2 : wj.cell? ⟨g, j * 3 + 2, none⟩ = some (.int .i64 (y : Int)) := by rw [HB3.out.cell (p := ⟨g, j * 3 + 2, none⟩) hg]; exact c2
      clear c0 c1 c2
      go_wp2_with fail
      have n64 := HN3.out.lt
      have HNa := hid (HN3.out.alloc (.cells #[.int .i64 x, .int .i64 ((R x y : Nat) : Int), .int .i64 y] 68))
      have HBa := hid (((Below.refl wj.heap.size wj).alloc (Nat.le_refl _) (.cells #[.int .i64 x, .int .i64 ((R x y : Nat) : Int), .int .i64 y] 68)))
      have e0 := new_cell3 wj (.int .i64 x) (.int .i64 ((R x y : Nat) : Int)) (.int .i64 y) 68
      have hzz : wj.heap.size < (wj.alloc (.cells #[.int .i64 x, .int .i64 ((R x y : Nat) : Int), .int .i64 y] 68)).heap.size := by simp
      generalize hwa : wj.alloc (.cells #[.int .i64 x, .int .i64 ((R x y : Nat) : Int), .int .i64 y] 68) = wa at *
      obtain ⟨e0, e1, e2⟩ := e0
      have HNc := NB.run HNa.out
      have HX0 : Below wa.heap.size wa wa.drew := below_drew' (Below.refl _ _)
      by_cases e : R x y &&& S x y = R x y
      · have HD := hid (decide_eq_true e)
        have HG3 := hid (fun q hq => HG2.out q e hq)
        clear e
        go_region_held3 (fun wx => ((do let b ← isAgg 63; Next.value <$> (if b = true then (do let k ← sizeOf 63; Value.agg <$> loadCellsFrom ⟨w.heap.size + 1, 0, none⟩ 0 k #[]) else Go.load ⟨w.heap.size + 1, 0, none⟩) : Sem Next)).run Tryd.prog wx = .ok (.value (.agg (netV n S))) wx ∧ wx.cell? ⟨wj.heap.size, 0, none⟩ = some (.int .i64 x) ∧ wx.cell? ⟨wj.heap.size, 1, none⟩ = some (.int .i64 ((R x y : Nat) : Int)) ∧ wx.cell? ⟨wj.heap.size, 2, none⟩ = some (.int .i64 y)) (first | exact ⟨NB.run (show NB wa.drew _ _ _ from HNa.out), e0, e1, e2⟩ | exact ⟨NB.run (HNa.out.below' HX), by rw [HX.cell (p := ⟨wj.heap.size, 0, none⟩) hzz]; exact e0, by rw [HX.cell (p := ⟨wj.heap.size, 1, none⟩) hzz]; exact e1, by rw [HX.cell (p := ⟨wj.heap.size, 2, none⟩) hzz]; exact e2⟩)
          (first | (go_at_call 38; (with_reducible refine (edge_any n S x y (by omega) (by omega) _).mono ?_); rintro e w' ⟨rfl, hb⟩; obtain ⟨HX, hz0, hz, hc, hf⟩ := bst (w0 := wa) (by go_grown) hb; clear hb hf hc hz hz0) | (go_at_call 90; (with_reducible refine (HW.out _).mono ?_); rintro e w' ⟨rfl, rfl⟩; rw [HD.out]) | fail)
        all_goals
          go_wp2
          have HBy := hid (HX.mono (show wj.heap.size ≤ wa.heap.size from HBa.out.size))
          have HBz := hid (HB3.out.trans (Below.mono (HBa.out.trans HBy.out) HB3.out.size))
          go_roundw
          case rel => exact ⟨j + 1, by omega, by go_num, HG3, hid (HNa.out.below' HX), HBz⟩
          case measure => simp [intOf]; omega
      · have HD := hid (decide_eq_false e)
        have HV := hid (show witB R S (edL n) = false by
          unfold witB
          rw [List.all_eq_false]
          exact ⟨(x, y), edL_mem.2 ⟨hxy, hyi⟩, by simpa using e⟩)
        clear e
        go_region_held3 (fun wx => ((do let b ← isAgg 63; Next.value <$> (if b = true then (do let k ← sizeOf 63; Value.agg <$> loadCellsFrom ⟨w.heap.size + 1, 0, none⟩ 0 k #[]) else Go.load ⟨w.heap.size + 1, 0, none⟩) : Sem Next)).run Tryd.prog wx = .ok (.value (.agg (netV n S))) wx ∧ wx.cell? ⟨wj.heap.size, 0, none⟩ = some (.int .i64 x) ∧ wx.cell? ⟨wj.heap.size, 1, none⟩ = some (.int .i64 ((R x y : Nat) : Int)) ∧ wx.cell? ⟨wj.heap.size, 2, none⟩ = some (.int .i64 y)) (first | exact ⟨NB.run (show NB wa.drew _ _ _ from HNa.out), e0, e1, e2⟩ | exact ⟨NB.run (HNa.out.below' HX), by rw [HX.cell (p := ⟨wj.heap.size, 0, none⟩) hzz]; exact e0, by rw [HX.cell (p := ⟨wj.heap.size, 1, none⟩) hzz]; exact e1, by rw [HX.cell (p := ⟨wj.heap.size, 2, none⟩) hzz]; exact e2⟩)
          (first | (go_at_call 38; (with_reducible refine (edge_any n S x y (by omega) (by omega) _).mono ?_); rintro e w' ⟨rfl, hb⟩; obtain ⟨HX, hz0, hz, hc, hf⟩ := bst (w0 := wa) (by go_grown) hb; clear hb hf hc hz hz0) | (go_at_call 90; (with_reducible refine (HW.out _).mono ?_); rintro e w' ⟨rfl, rfl⟩; rw [HD.out]) | fail)
        all_goals
          go_wp2
          have HBy := hid (HX.mono (show wj.heap.size ≤ wa.heap.size from HBa.out.size))
          have HBz := hid (HB3.out.trans (Below.mono (HBa.out.trans HBy.out) HB3.out.size))
          go_ret
          exact ⟨ret_bool HV.out.symm, HB2.out.trans (HBz.out.mono HB2.out.size)⟩
    · obtain rfl : j = (edL n).length := by omega
      have hdj : decide (((edL n).length : Int) < ((edL n).length : Int)) = false := by simp
      have HV := hid (show witB R S (edL n) = true by
        unfold witB
        refine List.all_eq_true.2 fun p hp => decide_eq_true ?_
        obtain ⟨q, hq, e⟩ := List.getElem_of_mem hp
        have := HG.out q hq
        rw [List.getD_eq_getElem?_getD, List.getElem?_eq_getElem hq, Option.getD_some, e] at this
        exact this)
      go_wp2
      go_ret
      exact ⟨ret_bool HV.out.symm, HB2.out.trans (HB3.out.mono HB2.out.size)⟩
end Go.Proofs.YtnogdjmciekieabDoor.C
