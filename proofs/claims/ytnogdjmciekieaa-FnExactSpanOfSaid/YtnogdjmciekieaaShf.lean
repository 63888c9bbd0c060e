/- ShiftModel: all intervals of a plan moved by some points. -/
import Derived.Test.YtnogdjmciekieaaIvs
import Derived.Deep.AppendLies
import Derived.Laws.AppendOwn
import Derived.IntWalk
namespace Go.Proofs.Ytnogdjmciekieaa.C
open Go.RowKit
set_option linter.unusedVariables false
set_option linter.unusedSimpArgs false
theorem own_below8 {w w' : World} {base e size n : Nat} {v : Value} {xs : List Value} (h : w.ownsRow base e size v n xs) (hb : Below w.heap.size w w') : w'.ownsRow base e size v n xs :=
  h.kept (row := none) ⟨hb.os, hb.tape, hb.output, hb.size, fun k hk _ => hb.block k hk⟩ (by cases hv : v.ownBlock <;> simp)
def mvF (F : Nat → Int) (by' : Int) (i : Nat) : Int := wrap64 (F i + by')
def shN (n : Nat) (F T : Nat → Int) (d : Int) : Nat := if plV n (mvF F d) (mvF T d) then n else 0
theorem shN_on {n : Nat} {F T : Nat → Int} {d : Int} (h : plV n (mvF F d) (mvF T d) = true) : shN n F T d = n := by unfold shN; rw [h]; rfl
theorem shN_off {n : Nat} {F T : Nat → Int} {d : Int} (h : plV n (mvF F d) (mvF T d) = false) : shN n F T d = 0 := by unfold shN; rw [h]; rfl
theorem news_two (w : World) (x y : Value) (t : TypeId) : ∀ j u, [x, y][j]? = some u → (w.alloc (.cells #[x, y] t)).cell? ((⟨w.heap.size, 0, none⟩ : Addr).add j) = some u := by
  intro j u hj
  match j, hj with
  | 0, hj => simp at hj; subst hj; simp [Addr.add, go_sem]
  | 1, hj => simp at hj; subst hj; simp [Addr.add, go_sem]
theorem one_two {k : IntKind} {x y : Int} : ∀ u ∈ [Value.int k x, Value.int k y], u.oneCell' = true := by
  intro u hu; simp at hu; rcases hu with rfl | rfl <;> rfl
theorem mv_far {n : Nat} {F T : Nat → Int} {d : Int} (hw : (Lit.int .i64 d).wf = true) (h : plV n F T = true) (hd : btw (-2000000) d 2000000 = false) : plV n (mvF F d) (mvF T d) = false := by
  obtain ⟨⟨h1, h6⟩, hv⟩ := plV_iff.1 h
  unfold plV
  rw [alV_off (i := 0) (by omega), Bool.and_false]
  have h0 := hv 0 (by omega)
  rw [iv_iff] at h0
  simp only [btw, decide_eq_false_iff_not] at hd
  simp [Lit.wf, IntKind.min, IntKind.max, IntKind.signed, IntKind.bits] at hw
  cases hh : iv (mvF F d 0) (mvF T d 0)
  · rfl
  · exfalso
    rw [iv_iff] at hh
    simp only [mvF, wrap64] at hh
    omega
set_option maxHeartbeats 1000000 in
theorem iShift_zero (a : Option Addr) (c : Nat) (d : Int) (w : World) :
    Calls Try.prog 14 #[.slice a 0 c, .int .i64 d] w (NewIS w 0 (fun _ => 0) (fun _ => 0) false) := by
  have HS := AllLt.start w; go_enter Try.func14, Try.ntmps14
  go_wp2_with fail
  (with_reducible refine (isPlan_zero _ _ _).mono ?_)
  rintro e w2 ⟨rfl, hb⟩
  have HB := hid hb
  clear hb
  go_wp2_with fail
  refine bodyPost_ret (by simp [results, Try.results14, go_sem, *]; try rfl) rfl ?_
  exact ⟨_, rfl, HB.out, .inl ⟨rfl, _, _, rfl⟩⟩
theorem iShift_off (b cap n : Nat) (F T : Nat → Int) (d : Int) (w : World) (hn : n ≤ 4611686018427387904) (h1 : n ≤ cap) (hR : Rv w b n F T) (h : plV n F T = false) :
    Calls Try.prog 14 #[.slice (some ⟨b, 0, none⟩) n cap, .int .i64 d] w (NewIS w 0 (fun _ => 0) (fun _ => 0) false) := by
  have HI := hid (isPlan_any b cap n F T w hn h1 hR)
  rw [h] at HI
  clear hR h
  have HS := AllLt.start w; go_enter Try.func14, Try.ntmps14
  go_wp2_with fail
  (with_reducible refine HI.out.mono ?_)
  rintro e w2 ⟨rfl, hb⟩
  have HB := hid hb
  clear hb
  go_wp2_with fail
  refine bodyPost_ret (by simp [results, Try.results14, go_sem, *]; try rfl) rfl ?_
  exact ⟨_, rfl, HB.out, .inl ⟨rfl, _, _, rfl⟩⟩
set_option maxHeartbeats 2000000 in
set_option maxRecDepth 100000 in
theorem iShift_on (b cap n : Nat) (F T : Nat → Int) (d : Int) (w : World) (h1 : n ≤ cap) (hR : Rv w b n F T) (h : plV n F T = true) :
    Calls Try.prog 14 #[.slice (some ⟨b, 0, none⟩) n cap, .int .i64 d] w (NewIS w (shN n F T d) (mvF F d) (mvF T d) (plV n (mvF F d) (mvF T d))) := by
  obtain ⟨⟨g1, g6⟩, _⟩ := plV_iff.1 h
  have HI := hid (isPlan_any b cap n F T w (by omega) h1 hR)
  rw [h] at HI
  have HR := hid hR
  clear hR h
  obtain ⟨i0, hi0, hz0, hz1, hz2⟩ := info_parts ivInfo
  have HS := AllLt.start w; go_enter Try.func14, Try.ntmps14
  go_wp2_with fail
  (with_reducible refine HI.out.mono ?_)
  rintro e w2 ⟨rfl, hb⟩
  have HB2 := hid hb
  clear hb HI
  go_wp2_with (at_make; go_loud (refine wpList_make_own _ rfl _ _ 24 rfl w.heap.size 38 i0 (.agg #[.int .i64 0, .int .i64 0]) 2 Try.underlying24 hi0 hz0 hz1 .i64 .i64 _ n rfl rfl rfl (by rw [hz2]; omega) (by unfold maxLen; omega) HB2.out.size ?_); intro w3 hown hgrow)
  have HO0 : Hid (w3.ownsRow w.heap.size 38 2 (.slice (some ⟨w2.heap.size, 0, none⟩) 0 n) 0 (ivC (mvF F d) (mvF T d) 0)) := hid hown
  have HB3 := hid (HB2.out.grown hgrow HB2.out.size (fun k hk => by cases hk))
  clear hown hgrow
  go_loopw [17, 6] (fun u v wr => ∃ (k : Nat) (all : Value), all = v ∧ k ≤ n ∧ u = .int .i64 k ∧ Hid (wr.ownsRow w.heap.size 38 2 all k (ivC (mvF F d) (mvF T d) k)) ∧ Hid (Below w.heap.size w wr)) (fun u _ _ => n - (intOf u).toNat)
  case atStart => exact ⟨0, _, rfl, by omega, rfl, HO0, HB3⟩
  case round =>
    obtain ⟨k, all, rfl, hk, rfl, HO, HB⟩ := hrel
    clear HS HO0 HB3 HB2
    obtain ⟨wi, rfl⟩ : ∃ wi : World, wi = wr := ⟨_, rfl⟩
    by_cases hkl : k < n
    · have hdi : decide ((k : Int) < (n : Int)) = true := by simp; omega
      have hdj : decide (k < n) = true := by simp; omega
      obtain ⟨c0, c1⟩ := (HR.out.below HB.out).2 k hkl
      have HOA := hid (HO.out.alloc (.cells #[.int .i64 (F k), .int .i64 (T k)] 38))
      have HBA := hid (HB.out.alloc HB.out.size (.cells #[.int .i64 (F k), .int .i64 (T k)] 38))
      have HL := hid (show ivC (mvF F d) (mvF T d) (k + 1) = ivC (mvF F d) (mvF T d) k ++ [.int .i64 (mvF F d k), .int .i64 (mvF T d k)] from rfl)
      have e1 : mvF F d k = wrap64 (F k + d) := rfl
      have e2 : mvF T d k = wrap64 (T k + d) := rfl
      rw [e1, e2] at HL
      clear e1 e2
      generalize F k = y at c0 c1 HOA HBA HL
      generalize T k = z at c0 c1 HOA HBA HL
      go_wp2_with (at_builtin; refine wpList_append_own _ rfl _ _ 24 rfl w.heap.size 38 i0 _ 2 16 Try.underlying24 hi0 hz0 hz1 hz2 rfl (by decide) _ _ _ rfl (HOA.out.alloc _) ⟨wi.heap.size + 1, 0, none⟩ 1 1 [.int .i64 (wrap64 (y + d)), .int .i64 (wrap64 (z + d))] rfl rfl ?c1 ?c2 ?c3 ?c4 ?c5 ?_)
      case c1 =>
        intro j u hj
        match j, hj with
        | 0, hj => simp at hj; subst hj; simp [Addr.add]
        | 1, hj => simp at hj; subst hj; simp [Addr.add]
      case c2 => intro u hu; simp at hu; rcases hu with rfl | rfl <;> rfl
      case c3 => unfold maxLen; omega
      case c4 => omega
      case c5 => have := HB.out.size; simp; omega
      intro v' w4 hown' hgrow _
      have HO4 : Hid (w4.ownsRow w.heap.size 38 2 v' (k + 1) (ivC (mvF F d) (mvF T d) (k + 1))) := hid (by rw [HL.out]; exact hown')
      have HB4 := hid ((HBA.out.alloc (by have := HB.out.size; simp; omega) _).grown hgrow (by have := HB.out.size; simp; omega) (fun j hj => (HOA.out.lt j hj).1))
      clear hown' hgrow HL HOA HBA
      go_wp2
      go_roundw
      case rel => exact ⟨k + 1, _, rfl, by omega, by go_num, HO4, HB4⟩
      case measure => simp [intOf]; omega
    · obtain rfl : k = n := by omega
      have hdi : decide ((k : Int) < (k : Int)) = false := by simp
      obtain ⟨b', cap', rfl, hc', hB', hR', hF'⟩ := own_rv HO.out (by omega)
      have HP := hid (isPlan_any b' cap' k (mvF F d) (mvF T d) _ (by omega) hc' hR')
      have HE : Hid (∀ w', Below wi.heap.size wi w' → NewI w k (mvF F d) (mvF T d) (.slice (some ⟨b', 0, none⟩) k cap') w') := hid fun w' hb => ⟨HB.out.trans (hb.mono HB.out.size), .inr ⟨by omega, b', cap', rfl, hc', hB', hR'.below hb, hF'.below hb hR'.1⟩⟩
      clear hc' hB' hR' hF' HO HR
      cases hq : plV k (mvF F d) (mvF T d)
      all_goals
        rw [hq] at HP
        have HZ := hid hq
        clear hq
        go_wp2_with fail
        (with_reducible refine HP.out.mono ?_)
        rintro e w5 ⟨rfl, hb⟩
        have HX := hid hb
        clear hb
        go_wp2_with fail
        refine bodyPost_ret (by simp [results, Try.results14, go_sem, *]; try rfl) rfl ?_
      · exact ⟨_, by rw [HZ.out], HB.out.trans (HX.out.mono HB.out.size), .inl ⟨shN_off HZ.out, _, _, rfl⟩⟩
      · exact ⟨_, by rw [HZ.out], by rw [shN_on HZ.out]; exact HE.out _ HX.out⟩
set_option maxHeartbeats 1000000 in
theorem sShift_off (b cap n : Nat) (F T : Nat → Int) (d : Int) (w : World) (hn : n ≤ 4611686018427387904) (h1 : n ≤ cap) (hR : Rv w b n F T) (h : plV n F T = false) :
    Calls Try.prog 12 #[.slice (some ⟨b, 0, none⟩) n cap, .int .i64 d] w (NewIS w 0 (fun _ => 0) (fun _ => 0) false) := by
  have HI := hid (l5All_any b cap n F T (w.alloc (.cells #[] 38)) hn h1 (hR.below ((Below.refl _ _).alloc (Nat.le_refl _) _)))
  rw [h] at HI
  clear hR h
  have HS := AllLt.start w; go_enter Try.func12, Try.ntmps12
  go_wp2_with fail
  (with_reducible refine HI.out.mono ?_)
  rintro e w2 ⟨rfl, hb⟩
  have HB := hid (((Below.refl w.heap.size w).alloc (Nat.le_refl _) _).trans (hb.mono (by simp)))
  clear hb
  go_wp2_with fail
  refine bodyPost_ret (by simp [results, Try.results12, go_sem, *]; try rfl) rfl ?_
  exact ⟨_, rfl, HB.out, .inl ⟨rfl, _, _, rfl⟩⟩
theorem sShift_far (b cap n : Nat) (F T : Nat → Int) (d : Int) (w : World) (h1 : n ≤ cap) (hR : Rv w b n F T) (h : plV n F T = true) (hd : btw (-2000000) d 2000000 = false) :
    Calls Try.prog 12 #[.slice (some ⟨b, 0, none⟩) n cap, .int .i64 d] w (NewIS w 0 (fun _ => 0) (fun _ => 0) false) := by
  obtain ⟨⟨g1, g6⟩, _⟩ := plV_iff.1 h
  have HI := hid (l5All_any b cap n F T (w.alloc (.cells #[] 38)) (by omega) h1 (hR.below ((Below.refl _ _).alloc (Nat.le_refl _) _)))
  have HD := hid hd
  rw [h] at HI
  clear hR h hd
  have HS := AllLt.start w; go_enter Try.func12, Try.ntmps12
  go_wp2_with fail
  (with_reducible refine HI.out.mono ?_)
  rintro e w2 ⟨rfl, hb⟩
  have HB := hid (((Below.refl w.heap.size w).alloc (Nat.le_refl _) _).trans (hb.mono (by simp)))
  clear hb
  go_wp2_with fail
  (with_reducible refine (l1In_any _ _ _ _).mono ?_)
  rintro e w3 ⟨rfl, rfl⟩
  rw [HD.out]
  go_wp2_with fail
  refine bodyPost_ret (by simp [results, Try.results12, go_sem, *]; try rfl) rfl ?_
  exact ⟨_, rfl, HB.out, .inl ⟨rfl, _, _, rfl⟩⟩
set_option maxHeartbeats 2000000 in
set_option maxRecDepth 100000 in
theorem sShift_on (b cap n : Nat) (F T : Nat → Int) (d : Int) (w : World) (h1 : n ≤ cap) (hR : Rv w b n F T) (h : plV n F T = true) (hd : btw (-2000000) d 2000000 = true) :
    Calls Try.prog 12 #[.slice (some ⟨b, 0, none⟩) n cap, .int .i64 d] w (NewIS w (shN n F T d) (mvF F d) (mvF T d) (plV n (mvF F d) (mvF T d))) := by
  obtain ⟨⟨g1, g6⟩, _⟩ := plV_iff.1 h
  have HI := hid (l5All_any b cap n F T (w.alloc (.cells #[] 38)) (by omega) h1 (hR.below ((Below.refl _ _).alloc (Nat.le_refl _) _)))
  have HD := hid hd
  rw [h] at HI
  have HR := hid hR
  clear hR h hd
  obtain ⟨i0, hi0, hz0, hz1, hz2⟩ := info_parts ivInfo
  have HO0 := hid (World.ownsRow_made (e := 38) (size := 2) w #[] 0 (Nat.le_refl _) (by decide) rfl)
  have HS := AllLt.start w; go_enter Try.func12, Try.ntmps12
  go_wp2_with fail
  (with_reducible refine HI.out.mono ?_)
  rintro e w2 ⟨rfl, hb⟩
  have HO2 : Hid (w2.ownsRow w.heap.size 38 2 (.slice (some ⟨w.heap.size, 0, none⟩) 0 0) 0 (ivC (mvF F d) (mvF T d) 0)) := hid (own_below8 HO0.out hb)
  have HB2 := hid (((Below.refl w.heap.size w).alloc (Nat.le_refl _) _).trans (hb.mono (by simp)))
  clear hb HI HO0
  go_wp2_with fail
  (with_reducible refine (l1In_any _ _ _ _).mono ?_)
  rintro e w3 ⟨rfl, rfl⟩
  rw [HD.out]
  go_wp2_with fail
  go_loopw [7, 6] (fun u v wr => ∃ (k : Nat) (all : Value), all = v ∧ k ≤ n ∧ u = .int .i64 k ∧ Hid (wr.ownsRow w.heap.size 38 2 all k (ivC (mvF F d) (mvF T d) k)) ∧ Hid (Below w.heap.size w wr)) (fun u _ _ => n - (intOf u).toNat)
  case atStart => exact ⟨0, _, rfl, by omega, rfl, HO2, HB2⟩
  case round =>
    obtain ⟨k, all, rfl, hk, rfl, HO, HB⟩ := hrel
    clear HS HO2 HB2
    obtain ⟨wi, rfl⟩ : ∃ wi : World, wi = wr := ⟨_, rfl⟩
    by_cases hkl : k < n
    · have hdi : decide ((k : Int) < (n : Int)) = true := by simp; omega
      have hdj : decide (k < n) = true := by simp; omega
      obtain ⟨c0, c1⟩ := HR.out.2 k hkl
      have zb := HR.out.1
      have HL := hid (show ivC (mvF F d) (mvF T d) (k + 1) = ivC (mvF F d) (mvF T d) k ++ [.int .i64 (mvF F d k), .int .i64 (mvF T d k)] from rfl)
      have e1 : mvF F d k = wrap64 (F k + d) := rfl
      have e2 : mvF T d k = wrap64 (T k + d) := rfl
      rw [e1, e2] at HL
      clear e1 e2
      generalize F k = y at c0 c1 HL
      generalize T k = z at c0 c1 HL
      have hbb := HB.out
      have hbs := HB.out.size
      have d0 : wi.cell? ⟨b, k * 2, none⟩ = some (.int .i64 y) := (HB.out.cell (p := ⟨b, k * 2, none⟩) zb).trans c0
      have d1 : wi.cell? ⟨b, k * 2 + 1, none⟩ = some (.int .i64 z) := (HB.out.cell (p := ⟨b, k * 2 + 1, none⟩) zb).trans c1
      go_wp2_with fail
      go_region_held3 (fun wx => wx.cell? ⟨b, k * 2, none⟩ = some (.int .i64 y) ∧ wx.cell? ⟨b, k * 2 + 1, none⟩ = some (.int .i64 z))
        (first | exact ⟨d0, d1⟩ | exact ⟨(Below.cell (B := w.heap.size) (w := w) (p := ⟨b, k * 2, none⟩) (by (repeat' (first | (with_reducible exact Below.refl _ _) | (with_reducible refine Below.setCell ?_ ?_ _) | (with_reducible refine below_drewN' ?_ _) | (with_reducible refine below_drew' ?_) | (with_reducible refine Below.alloc ?_ ?_ _) | (with_reducible assumption) | go_size))) zb).trans c0, (Below.cell (B := w.heap.size) (w := w) (p := ⟨b, k * 2 + 1, none⟩) (by (repeat' (first | (with_reducible exact Below.refl _ _) | (with_reducible refine Below.setCell ?_ ?_ _) | (with_reducible refine below_drewN' ?_ _) | (with_reducible refine below_drew' ?_) | (with_reducible refine Below.alloc ?_ ?_ _) | (with_reducible assumption) | go_size))) zb).trans c1⟩)
        (first | (go_loud (refine step_append_lies _ (by rfl) _ _ _ (by rfl) w.heap.size 38 i0 _ 2 16 Try.underlying24 hi0 hz0 hz1 hz2 rfl (by omega) _ k (ivC (mvF F d) (mvF T d) k) (by rfl) (own_below8 HO.out (by (repeat' (first | (with_reducible exact Below.refl _ _) | (with_reducible refine Below.setCell ?_ ?_ _) | (with_reducible refine below_drewN' ?_ _) | (with_reducible refine below_drew' ?_) | (with_reducible refine Below.alloc ?_ ?_ _) | (with_reducible assumption) | go_size)))) ⟨wi.heap.size, 0, none⟩ 1 1 [.int .i64 (IntKind.i64.wrap (y + d)), .int .i64 (IntKind.i64.wrap (z + d))] (by rfl) (by rfl) (World.news_of_block (cs := #[.int .i64 (IntKind.i64.wrap (y + d)), .int .i64 (IntKind.i64.wrap (z + d))]) (t := 38) (fr := (0, 0)) (heap_alloc_new _ _)) one_two (by omega) (by unfold maxLen; omega) (by omega) (Below.size (B := w.heap.size) (w := w) (by (repeat' (first | (with_reducible exact Below.refl _ _) | (with_reducible refine Below.setCell ?_ ?_ _) | (with_reducible refine below_drewN' ?_ _) | (with_reducible refine below_drew' ?_) | (with_reducible refine Below.alloc ?_ ?_ _) | (with_reducible assumption) | go_size)))) _ rfl ?_); intro g9 cap9 w9 hown' hgrow hat hlt9; have HB9 : Below w.heap.size w w9 := Below.grown (by (repeat' (first | (with_reducible exact Below.refl _ _) | (with_reducible refine Below.setCell ?_ ?_ _) | (with_reducible refine below_drewN' ?_ _) | (with_reducible refine below_drew' ?_) | (with_reducible refine Below.alloc ?_ ?_ _) | (with_reducible assumption) | go_size))) hgrow (Below.size (B := w.heap.size) (w := w) (by (repeat' (first | (with_reducible exact Below.refl _ _) | (with_reducible refine Below.setCell ?_ ?_ _) | (with_reducible refine below_drewN' ?_ _) | (with_reducible refine below_drew' ?_) | (with_reducible refine Below.alloc ?_ ?_ _) | (with_reducible assumption) | go_size)))) (fun j hj => (HO.out.lt j hj).1); have HO9 := hid hown'; clear hown' hgrow hat hlt9) | fail)
      all_goals
        have HB10 := hid HB9
        have HO10 : Hid (w9.ownsRow w.heap.size 38 2 (.slice (some ⟨g9, 0, none⟩) (k + 1) cap9) (k + 1) (ivC (mvF F d) (mvF T d) (k + 1))) := hid (by rw [HL.out]; have h := HO9.out; simp only [IntWalk.i64_left] at h; exact h)
        clear HB9 HO9 HL
        go_wp2
        go_roundw
        case rel => exact ⟨k + 1, _, rfl, by omega, by go_num, HO10, HB10⟩
        case measure => simp [intOf]; omega
    · obtain rfl : k = n := by omega
      have hdi : decide ((k : Int) < (k : Int)) = false := by simp
      obtain ⟨b', cap', rfl, hc', hB', hR', hF'⟩ := own_rv HO.out (by omega)
      have HP := hid (l5All_any b' cap' k (mvF F d) (mvF T d) _ (by omega) hc' hR')
      have HE : Hid (∀ w', Below wi.heap.size wi w' → NewI w k (mvF F d) (mvF T d) (.slice (some ⟨b', 0, none⟩) k cap') w') := hid fun w' hb => ⟨HB.out.trans (hb.mono HB.out.size), .inr ⟨by omega, b', cap', rfl, hc', hB', hR'.below hb, hF'.below hb hR'.1⟩⟩
      clear hc' hB' hR' hF' HO HR
      cases hq : plV k (mvF F d) (mvF T d)
      all_goals
        rw [hq] at HP
        have HZ := hid hq
        clear hq
        go_wp2_with fail
        (with_reducible refine HP.out.mono ?_)
        rintro e w5 ⟨rfl, hb⟩
        have HX := hid hb
        clear hb
        go_wp2_with fail
        refine bodyPost_ret (by simp [results, Try.results12, go_sem, *]; try rfl) rfl ?_
      · exact ⟨_, by rw [HZ.out], (HB.out.trans (HX.out.mono HB.out.size)).alloc (Nat.le_trans HB.out.size HX.out.size) _, .inl ⟨shN_off HZ.out, _, _, rfl⟩⟩
      · exact ⟨_, by rw [HZ.out], by rw [shN_on HZ.out]; exact HE.out _ HX.out⟩
theorem shift_both (len : Nat) (F T : Nat → Int) (d : Int) (hl : len ≤ 1048576) (hw : (Lit.int .i64 d).wf = true) : ∃ (n : Nat) (FF TT : Nat → Int) (ok : Bool), n ≤ 6 ∧ (∀ w b, Rv w b len F T → Calls Try.prog 12 #[.slice (some ⟨b, 0, none⟩) len len, .int .i64 d] w (NewIS w n FF TT ok)) ∧
    ∀ w b, Rv w b len F T → Calls Try.prog 14 #[.slice (some ⟨b, 0, none⟩) len len, .int .i64 d] w (NewIS w n FF TT ok) := by
  cases h : plV len F T
  · exact ⟨0, fun _ => 0, fun _ => 0, false, by omega, fun w b hR => sShift_off b len len F T d w (by omega) (Nat.le_refl _) hR h, fun w b hR => iShift_off b len len F T d w (by omega) (Nat.le_refl _) hR h⟩
  · obtain ⟨⟨_, g6⟩, _⟩ := plV_iff.1 h
    have hle : shN len F T d ≤ 6 := by unfold shN; split <;> omega
    cases hd : btw (-2000000) d 2000000
    · have hz := mv_far hw h hd
      have hn := shN_off hz
      refine ⟨0, mvF F d, mvF T d, false, by omega, fun w b hR => (sShift_far b len len F T d w (Nat.le_refl _) hR h hd).mono ?_, fun w b hR => ?_⟩
      · rintro e w' ⟨v, rfl, h1, h2⟩
        exact ⟨v, rfl, h1, .inl (h2.elim id fun h => by omega)⟩
      · have := iShift_on b len len F T d w (Nat.le_refl _) hR h
        rw [hz, hn] at this
        exact this
    · exact ⟨_, _, _, _, hle, fun w b hR => sShift_on b len len F T d w (Nat.le_refl _) hR h hd, fun w b hR => iShift_on b len len F T d w (Nat.le_refl _) hR h⟩
set_option maxHeartbeats 2000000 in
theorem walk_FnExactShiftModel (a0 : Option Addr) (len0 cap0 : Nat) (F0 T0 : Nat → Int) (a1 : Int) (w : World) (w0 : Row2 w a0 len0 cap0 F0 T0) (w1 : (Lit.int .i64 a1).wf = true) :
    Calls Try.prog 3 #[.slice a0 len0 cap0, .int .i64 a1] w fun e w' => e = .returned (.bool true) ∧ Below w.heap.size w w' := by
  by_cases hl : len0 ≤ 1048576
  · have hd : ¬ (1048576 - (len0 : Int) < 0) := by omega
    have HA := hid w0
    clear w0
    obtain ⟨n, FF, TT, ok, hn, hS, hI⟩ := shift_both len0 F0 T0 a1 hl w1
    have HSp := hid hS
    have HIm := hid hI
    clear hS hI
    have HQ1 := hid (show decide (((1 + 2 * len0 : Nat) : Int) < 0) = false by simp; omega)
    have HQ2 := hid (show decide (((1 + 2 * n : Nat) : Int) < 0) = false by simp; omega)
    have HQ3 := hid (show (((1 + 2 * n : Nat) : Int) != ((1 + 2 * n : Nat) : Int)) = false by simp)
    have HS := AllLt.start w; go_enter Try.func3, Try.ntmps3
    go_wp2_with fail
    (with_reducible refine (szIv_on _ _ _ hl _).mono ?_)
    rintro e _ ⟨rfl, rfl⟩
    go_wp2_with fail
    (with_reducible refine (toIv_any _ _ _ F0 T0 hl _ HA.out).mono ?_)
    rintro e wa ⟨b1, rfl, hb1, hr1, hf1, hB1⟩
    have HR1 := hid hr1
    have HB1 := hid hB1
    clear hr1 hf1 hB1 hb1
    go_wp2_with fail
    (with_reducible refine (HSp.out _ _ HR1.out).mono ?_)
    rintro e wb ⟨v0, rfl, hv0⟩
    have HV0 := hid hv0.v.up
    have HB2 := hid (HB1.out.trans (hv0.1.mono HB1.out.size))
    clear hv0 HR1 HB1
    go_wp2_with fail
    (with_reducible refine (toIv_any _ _ _ F0 T0 hl _ (HA.out.below HB2.out)).mono ?_)
    rintro e wc ⟨bx, rfl, hbx, hrx, hfx, hB3⟩
    have HRX := hid hrx
    have HFX := hid hfx
    have HBX := hid (And.intro hbx hrx.1)
    have HC3 := hid hB3
    have HB3 := hid (HB2.out.trans (hB3.mono HB2.out.size))
    clear hrx hfx hbx hB3
    go_wp2_with fail
    (with_reducible refine (HIm.out _ _ HRX.out).mono ?_)
    rintro e wd ⟨g0, rfl, hg0⟩
    have HG := hid hg0.v
    have HR4 := hid (HRX.out.below hg0.1)
    have HF4 := hid (HFX.out.below hg0.1 HRX.out.1)
    have HC4 := hid (HC3.out.trans (hg0.1.mono HC3.out.size))
    have HB4 := hid (HB3.out.trans (hg0.1.mono HB3.out.size))
    clear hg0 HC3 HB3 HRX HFX
    go_wp2_with fail
    (with_reducible refine (eqIv_same _ _ n FF TT _ (by omega) HG.out.si (HV0.out.below HC4.out).si).mono ?_)
    rintro e wd2 ⟨rfl, hBd⟩
    have HBd := hid hBd
    clear hBd
    go_wp2_with fail
    (with_reducible refine (toIv_any _ _ _ F0 T0 hl _ ((HA.out.below HB4.out).below HBd.out)).mono ?_)
    rintro e we ⟨b5, rfl, hb5, hr5, hf5, hB5⟩
    have hB5' : Below wd.heap.size wd we := HBd.out.trans (hB5.mono HBd.out.size)
    have HG5 := hid (HG.out.below hB5')
    have HR5 := hid (HR4.out.below hB5')
    have HF5 := hid (HF4.out.below hB5' HR4.out.1)
    have HC5 := hid (HC4.out.trans (hB5'.mono HC4.out.size))
    have HB5 := hid (HB4.out.trans (hB5'.mono HB4.out.size))
    have HN5 := hid hr5
    clear hB5 hB5' hb5 hr5 hf5 HG HR4 HF4 HC4 HB4
    go_wp2_with fail
    (with_reducible refine (eqIv_same _ _ len0 F0 T0 _ (by omega) (HR5.out.si (Nat.le_refl _)) (HN5.out.si (Nat.le_refl _))).mono ?_)
    rintro e wf ⟨rfl, hB6⟩
    have HG6 := hid (HG5.out.below hB6)
    have HR6 := hid (HR5.out.below hB6)
    have HF6 := hid (HF5.out.below hB6 HR5.out.1)
    have HC6 := hid (HC5.out.trans (hB6.mono HC5.out.size))
    have HB6 := hid (HB5.out.trans (hB6.mono HB5.out.size))
    clear hB6 HG5 HR5 HF5 HC5 HB5 HN5
    go_wp2_with fail
    (with_reducible refine (show Calls _ _ #[_, .int .i64 1] _ _ from markX_any 1 (by omega) HR6.out HF6.out).mono ?_)
    rintro e wg ⟨rfl, hW⟩
    have HG7 := hid (HG6.out.wr hW HBX.out.2)
    have HC7 := hid (HC6.out.trans (hW.below HBX.out.1 HC6.out.size))
    have HB7 := hid (HB6.out.trans (hW.below (Nat.le_trans HB2.out.size HBX.out.1) HB6.out.size))
    clear hW HG6 HR6 HF6 HC6 HB6
    have hq1 := HQ1.out
    go_wp2_with fail
    clear hq1
    (with_reducible refine (eqIv_same _ _ n FF TT _ (by omega) HG7.out.si (HV0.out.below HC7.out).si).mono ?_)
    rintro e wg2 ⟨rfl, hBg⟩
    have HBg := hid hBg
    clear hBg
    go_wp2_with fail
    (with_reducible refine (show Calls _ _ #[_, .int .i64 1] _ _ from markI_any (B := wb.heap.size) (n := n) (F := FF) (T := TT) 1 (by omega) (Nat.le_trans HC7.out.size HBg.out.size) (((HG7.out).below HBg.out).lower (Nat.le_trans HBX.out.1 (Nat.le_of_lt HBX.out.2)))).mono ?_)
    rintro e wh ⟨rfl, hM, hW⟩
    have hW' : Below wb.heap.size wg wh := (HBg.out.mono HC7.out.size).trans hW
    have HM := hid hM
    have HC8 := hid (HC7.out.trans hW')
    have HB8 := hid (HB7.out.trans (hW'.mono HB2.out.size))
    clear hW hW' hM HG7 HC7 HB7
    go_wp2_with fail
    (with_reducible refine (show Calls _ _ #[_, .int .i64 1] _ _ from heldI_any (n := n) 1 (by omega) HM.out).mono ?_)
    rintro e _ ⟨rfl, rfl⟩
    have hq2 := HQ2.out
    have hq3 := HQ3.out
    go_wp2_with fail
    clear hq2 hq3
    (with_reducible refine (toIv_any _ _ _ F0 T0 hl _ (HA.out.below HB8.out)).mono ?_)
    rintro e wi ⟨b9, rfl, hb9, hr9, hf9, hB9⟩
    have HR9 := hid hr9
    have HM9 := hid (HM.out.below hB9)
    have HC9 := hid (HC8.out.trans (hB9.mono HC8.out.size))
    have HB9 := hid (HB8.out.trans (hB9.mono HB8.out.size))
    clear hB9 hb9 hr9 hf9 HM HC8 HB8
    go_wp2_with fail
    (with_reducible refine (HIm.out _ _ HR9.out).mono ?_)
    rintro e wj ⟨h0, rfl, hh0⟩
    have HH := hid hh0.v
    have HM10 := hid (HM9.out.below hh0.1)
    have HC10 := hid (HC9.out.trans (hh0.1.mono HC9.out.size))
    have HB10 := hid (HB9.out.trans (hh0.1.mono HB9.out.size))
    clear hh0 HR9 HM9 HC9 HB9
    go_wp2_with fail
    (with_reducible refine (eqIv_same _ _ n FF TT _ (by omega) HH.out.si (HV0.out.below HC10.out).si).mono ?_)
    rintro e wk ⟨rfl, hBk⟩
    have HBk := hid hBk
    clear hBk
    go_wp2_with fail
    (with_reducible refine (show Calls _ _ #[_, .int .i64 1] _ _ from heldI_any (n := n) 1 (by omega) (HM10.out.below HBk.out)).mono ?_)
    rintro e _ ⟨rfl, rfl⟩
    have hq2 := HQ2.out
    have hq3 := HQ3.out
    go_wp2
    go_ret
    exact ⟨rfl, HB10.out.trans (HBk.out.mono HB10.out.size)⟩
  · have HA := hid w0
    clear w0
    have HS := AllLt.start w; go_enter Try.func3, Try.ntmps3
    go_wp2_with fail
    (with_reducible refine (szIv_off _ _ _ hl HA.out.len _).mono ?_)
    rintro e _ ⟨rfl, rfl⟩
    go_wp2
    go_ret
    exact ⟨rfl, Below.refl _ _⟩
end Go.Proofs.Ytnogdjmciekieaa.C
