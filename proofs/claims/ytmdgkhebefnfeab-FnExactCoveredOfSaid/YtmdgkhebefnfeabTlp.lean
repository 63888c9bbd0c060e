/- The timeline of a plan. -/
import Derived.Test.YtmdgkhebefnfeabTli
import Derived.Test.YtmdgkhebefnfeabShf
namespace Go.Proofs.Ytmdgkhebefnfeab.C
open Go.RowKit
set_option linter.unusedVariables false
set_option linter.unusedSimpArgs false
def enF (F T : Nat → Int) (j : Nat) : Int := if j % 2 = 0 then F (j / 2) else T (j / 2)
theorem enF_0 (F T : Nat → Int) (k : Nat) : enF F T (2 * k) = F k := by unfold enF; rw [if_pos (by omega)]; congr 1; omega
theorem enF_1 (F T : Nat → Int) (k : Nat) : enF F T (2 * k + 1) = T k := by unfold enF; rw [if_neg (by omega)]; congr 1; omega
theorem fL_two (F T : Nat → Int) (k : Nat) : fL (enF F T) (2 * k + 2) = fL (enF F T) (2 * k) ++ [.int .i64 (F k), .int .i64 (T k)] := by
  unfold fL
  rw [List.range_succ, List.range_succ]
  simp [enF_0, enF_1]
theorem plan_zero (a : Option Addr) (c : Nat) (w : World) :
    Calls Try.prog 38 #[.slice a 0 c] w fun e w' => e = .returned (.tuple #[.agg #[.slice none 0 0, .slice none 0 0, .nilFunc], .bool false]) ∧ Below w.heap.size w w' := by
  have HB1 := hid ((Below.refl w.heap.size w).alloc (Nat.le_refl _) (.cells #[.slice none 0 0, .slice none 0 0, .nilFunc] 52))
  have HS := AllLt.start w; go_enter Try.func38, Try.ntmps38
  go_wp2_with fail
  (with_reducible refine (isPlan_zero _ _ _).mono ?_)
  rintro e w2 ⟨rfl, hb⟩
  have HB := hid (HB1.out.trans (hb.mono HB1.out.size))
  have hs1 : w.heap.size < (w.alloc (.cells #[.slice none 0 0, .slice none 0 0, .nilFunc] 52)).heap.size := by simp
  have hr : w2.heap[w.heap.size]? = some (.cells #[.slice none 0 0, .slice none 0 0, .nilFunc] 52 (0, 0)) := (hb.block _ hs1).trans (heap_alloc_new w _)
  have d0 : w2.cell? ⟨w.heap.size, 0, none⟩ = some (.slice none 0 0) := by rw [cell_of_row w2 _ _ _ _ _ hr]; rfl
  have d1 : w2.cell? ⟨w.heap.size, 1, none⟩ = some (.slice none 0 0) := by rw [cell_of_row w2 _ _ _ _ _ hr]; rfl
  have d2 : w2.cell? ⟨w.heap.size, 2, none⟩ = some .nilFunc := by rw [cell_of_row w2 _ _ _ _ _ hr]; rfl
  have e0 : w2.frozen? ⟨w.heap.size, 0, none⟩ = false := frozen_of_row w2 _ 0 _ _ hr
  have e1 : w2.frozen? ⟨w.heap.size, 1, none⟩ = false := frozen_of_row w2 _ 1 _ _ hr
  have e2 : w2.frozen? ⟨w.heap.size, 2, none⟩ = false := frozen_of_row w2 _ 2 _ _ hr
  clear hb hr
  go_wp2_with fail
  refine bodyPost_ret (by simp [results, Try.results38, go_sem, *]; try rfl) rfl ?_
  exact ⟨rfl, ((HB.out.setCell (p := ⟨w.heap.size, 0, none⟩) (Nat.le_refl _) _).setCell (p := ⟨w.heap.size, 1, none⟩) (Nat.le_refl _) _).setCell (p := ⟨w.heap.size, 2, none⟩) (Nat.le_refl _) _⟩
theorem plan_off (b cap n : Nat) (F T : Nat → Int) (w : World) (hn : n ≤ 4611686018427387904) (h1 : n ≤ cap) (hR : Rv w b n F T) (h : plV n F T = false) :
    Calls Try.prog 38 #[.slice (some ⟨b, 0, none⟩) n cap] w fun e w' => e = .returned (.tuple #[.agg #[.slice none 0 0, .slice none 0 0, .nilFunc], .bool false]) ∧ Below w.heap.size w w' := by
  have HB1 := hid ((Below.refl w.heap.size w).alloc (Nat.le_refl _) (.cells #[.slice none 0 0, .slice none 0 0, .nilFunc] 52))
  have HI := hid (isPlan_any b cap n F T _ hn h1 (hR.below HB1.out))
  rw [h] at HI
  clear hR h
  have HS := AllLt.start w; go_enter Try.func38, Try.ntmps38
  go_wp2_with fail
  (with_reducible refine HI.out.mono ?_)
  rintro e w2 ⟨rfl, hb⟩
  have HB := hid (HB1.out.trans (hb.mono HB1.out.size))
  have hs1 : w.heap.size < (w.alloc (.cells #[.slice none 0 0, .slice none 0 0, .nilFunc] 52)).heap.size := by simp
  have hr : w2.heap[w.heap.size]? = some (.cells #[.slice none 0 0, .slice none 0 0, .nilFunc] 52 (0, 0)) := (hb.block _ hs1).trans (heap_alloc_new w _)
  have d0 : w2.cell? ⟨w.heap.size, 0, none⟩ = some (.slice none 0 0) := by rw [cell_of_row w2 _ _ _ _ _ hr]; rfl
  have d1 : w2.cell? ⟨w.heap.size, 1, none⟩ = some (.slice none 0 0) := by rw [cell_of_row w2 _ _ _ _ _ hr]; rfl
  have d2 : w2.cell? ⟨w.heap.size, 2, none⟩ = some .nilFunc := by rw [cell_of_row w2 _ _ _ _ _ hr]; rfl
  have e0 : w2.frozen? ⟨w.heap.size, 0, none⟩ = false := frozen_of_row w2 _ 0 _ _ hr
  have e1 : w2.frozen? ⟨w.heap.size, 1, none⟩ = false := frozen_of_row w2 _ 1 _ _ hr
  have e2 : w2.frozen? ⟨w.heap.size, 2, none⟩ = false := frozen_of_row w2 _ 2 _ _ hr
  clear hb hr
  go_wp2_with fail
  refine bodyPost_ret (by simp [results, Try.results38, go_sem, *]; try rfl) rfl ?_
  exact ⟨rfl, ((HB.out.setCell (p := ⟨w.heap.size, 0, none⟩) (Nat.le_refl _) _).setCell (p := ⟨w.heap.size, 1, none⟩) (Nat.le_refl _) _).setCell (p := ⟨w.heap.size, 2, none⟩) (Nat.le_refl _) _⟩
set_option maxHeartbeats 2000000 in
set_option maxRecDepth 100000 in
theorem plan_cap (b cap n : Nat) (F T : Nat → Int) (w : World) (h1 : n ≤ cap) (hR : Rv w b n F T) (h : plV n F T = true) :
    Calls Try.prog 38 #[.slice (some ⟨b, 0, none⟩) n cap] w fun e w' => ∃ g cg q k cq h, e = .returned (.tuple #[.agg #[.slice (some ⟨g, 0, none⟩) (2 * n) cg, .slice (some ⟨q, 0, none⟩) k cq, .func (.func 56) #[] #[]], .bool true]) ∧
      (Ded (enF F T) (2 * n) h k ∧ k ≤ cq) ∧ w.heap.size ≤ q ∧ Sb q k h w' w' ∧ Below w.heap.size w w' := by
  obtain ⟨⟨g1, g6⟩, _⟩ := plV_iff.1 h
  have HB1 := hid ((Below.refl w.heap.size w).alloc (Nat.le_refl _) (.cells #[.slice none 0 0, .slice none 0 0, .nilFunc] 52))
  have HR1 := hid (hR.below HB1.out)
  have HI := hid (isPlan_any b cap n F T _ (by omega) h1 HR1.out)
  rw [h] at HI
  clear hR h
  obtain ⟨i0, hi0, hz0, hz1, hz2⟩ := info_parts pntInfo
  have hs1 : w.heap.size < (w.alloc (.cells #[.slice none 0 0, .slice none 0 0, .nilFunc] 52)).heap.size := by simp
  have HRR := hid (heap_alloc_new w (.cells #[.slice none 0 0, .slice none 0 0, .nilFunc] 52))
  have hm : wrap64 (2 * (n : Int)) = ((2 * n : Nat) : Int) := by rw [IntWalk.wrap64_in _ (by omega)]; omega
  have hm2 : IntKind.i64.wrap (2 * (n : Int)) = ((2 * n : Nat) : Int) := by rw [IntWalk.i64_in _ (by omega)]; omega
  have HS := AllLt.start w; go_enter Try.func38, Try.ntmps38
  go_wp2_with fail
  (with_reducible refine HI.out.mono ?_)
  generalize hw0 : w.alloc (.cells #[.slice none 0 0, .slice none 0 0, .nilFunc] 52) = w0 at *
  rintro e w2 ⟨rfl, hb⟩
  have HB2 := hid hb
  have HS1 := hid hs1
  clear hb HI hw0 hs1
  go_wp2_with (at_make; go_loud (refine wpList_make_own _ rfl _ _ 49 rfl w0.heap.size 56 i0 (.int .i64 0) 1 Try.underlying49 hi0 hz0 hz1 .i64 .i64 _ (2 * n) rfl rfl rfl (by rw [hz2]; omega) (by unfold maxLen; omega) HB2.out.size ?_); intro w3 hown hgrow)
  have HO0 : Hid (w3.ownsRow w0.heap.size 56 1 (.slice (some ⟨w2.heap.size, 0, none⟩) 0 (2 * n)) (2 * 0) (fL (enF F T) (2 * 0))) := hid hown
  have HB3 := hid (HB2.out.grown hgrow HB2.out.size (fun k hk => by cases hk))
  clear hown hgrow
  go_loopw [17, 4] (fun u v wr => ∃ (k : Nat) (all : Value), all = v ∧ k ≤ n ∧ u = .int .i64 k ∧ Hid (wr.ownsRow w0.heap.size 56 1 all (2 * k) (fL (enF F T) (2 * k))) ∧ Hid (Below w0.heap.size w0 wr)) (fun u _ _ => n - (intOf u).toNat)
  case atStart => exact ⟨0, _, rfl, by omega, rfl, HO0, HB3⟩
  case round =>
    obtain ⟨k, all, rfl, hk, rfl, HO, HB⟩ := hrel
    clear HS HO0 HB3 HB2
    obtain ⟨wi, rfl⟩ : ∃ wi : World, wi = wr := ⟨_, rfl⟩
    by_cases hkl : k < n
    · have hdi : decide ((k : Int) < (n : Int)) = true := by simp; omega
      have hdj : decide (k < n) = true := by simp; omega
      obtain ⟨c0, c1⟩ := (HR1.out.below HB.out).2 k hkl
      have HOA := hid (HO.out.alloc (.cells #[.int .i64 (F k), .int .i64 (T k)] 41))
      have HBA := hid (HB.out.alloc HB.out.size (.cells #[.int .i64 (F k), .int .i64 (T k)] 41))
      have HL := hid (fL_two F T k)
      generalize F k = y at c0 c1 HOA HBA HL
      generalize T k = z at c0 c1 HOA HBA HL
      go_wp2_with (at_builtin; refine wpList_append_own _ rfl _ _ 49 rfl w0.heap.size 56 i0 _ 1 8 Try.underlying49 hi0 hz0 hz1 hz2 rfl (by decide) _ _ _ rfl (HOA.out.alloc _) ⟨wi.heap.size + 1, 0, none⟩ 2 2 [.int .i64 y, .int .i64 z] rfl rfl ?c1 ?c2 ?c3 ?c4 ?c5 ?_)
      case c1 =>
        intro j u hj
        match j, hj with
        | 0, hj => simp at hj; subst hj; simp [Addr.add]
        | 1, hj => simp at hj; subst hj; simp [Addr.add]
      case c2 => intro u hu; simp at hu; rcases hu with rfl | rfl <;> rfl
      case c3 => unfold maxLen; omega
      case c4 => omega
      case c5 => have := HB.out.size; simp; omega
      intro v' w4 hown' hgrow _
      have HO4 : Hid (w4.ownsRow w0.heap.size 56 1 v' (2 * (k + 1)) (fL (enF F T) (2 * (k + 1)))) := hid (by rw [show 2 * (k + 1) = 2 * k + 2 from by omega, HL.out]; exact hown')
      have HB4 := hid ((HBA.out.alloc (by have := HB.out.size; simp; omega) _).grown hgrow (by have := HB.out.size; simp; omega) (fun j hj => (HOA.out.lt j hj).1))
      clear hown' hgrow HL HOA HBA
      go_wp2
      go_roundw
      case rel => exact ⟨k + 1, _, rfl, by omega, by go_num, HO4, HB4⟩
      case measure => simp [intOf]; omega
    · obtain rfl : k = n := by omega
      have hdi : decide ((k : Int) < (k : Int)) = false := by simp
      obtain ⟨b', cap', rfl, hc', hB', hS'⟩ := sb_own HO.out (by omega)
      have HP := hid (timelineOf_cap b' cap' (2 * k) (enF F T) _ hS'.c hS'.lt (by omega) (by omega) hc')
      have HB9 := hid (hB')
      clear hS' HO HR1 hB'
      go_wp2_with fail
      (with_reducible refine HP.out.mono ?_)
      rintro e w5 ⟨q, kk, cq, h, rfl, ⟨hD, hkc⟩, hq, hS, hb⟩
      have hr := (hb.block _ (Nat.lt_of_lt_of_le HS1.out HB.out.size)).trans ((HB.out.block _ HS1.out).trans HRR.out)
      have HB5 := hid ((HB1.out.trans (HB.out.mono (Nat.le_of_lt HS1.out))).trans (hb.mono (Nat.le_trans (Nat.le_of_lt HS1.out) HB.out.size)))
      have hqq : w.heap.size < q := Nat.lt_of_lt_of_le HS1.out (Nat.le_trans HB.out.size hq)
      have HS5 := hid hS
      have HD := hid hD
      have d0 : w5.cell? ⟨w.heap.size, 0, none⟩ = some (.slice none 0 0) := by rw [cell_of_row w5 _ _ _ _ _ hr]; rfl
      have d1 : w5.cell? ⟨w.heap.size, 1, none⟩ = some (.slice none 0 0) := by rw [cell_of_row w5 _ _ _ _ _ hr]; rfl
      have d2 : w5.cell? ⟨w.heap.size, 2, none⟩ = some .nilFunc := by rw [cell_of_row w5 _ _ _ _ _ hr]; rfl
      have e0 : w5.frozen? ⟨w.heap.size, 0, none⟩ = false := frozen_of_row w5 _ 0 _ _ hr
      have e1 : w5.frozen? ⟨w.heap.size, 1, none⟩ = false := frozen_of_row w5 _ 1 _ _ hr
      have e2 : w5.frozen? ⟨w.heap.size, 2, none⟩ = false := frozen_of_row w5 _ 2 _ _ hr
      clear hb hr hS hD hq HP HRR
      go_wp2_with fail
      refine bodyPost_ret (by simp [results, Try.results38, go_sem, *]; try rfl) rfl ?_
      refine ⟨b', cap', q, kk, cq, h, rfl, ⟨HD.out, hkc⟩, Nat.le_of_lt hqq, ((HS5.out.far _ _ _ (by omega)).far _ _ _ (by omega)).far _ _ _ (by omega), ?_⟩
      exact ((HB5.out.setCell (p := ⟨w.heap.size, 0, none⟩) (Nat.le_refl _) _).setCell (p := ⟨w.heap.size, 1, none⟩) (Nat.le_refl _) _).setCell (p := ⟨w.heap.size, 2, none⟩) (Nat.le_refl _) _
theorem plan_on (b cap n : Nat) (F T : Nat → Int) (w : World) (h1 : n ≤ cap) (hR : Rv w b n F T) (h : plV n F T = true) :
    Calls Try.prog 38 #[.slice (some ⟨b, 0, none⟩) n cap] w fun e w' => ∃ g cg q k cq h, e = .returned (.tuple #[.agg #[.slice (some ⟨g, 0, none⟩) (2 * n) cg, .slice (some ⟨q, 0, none⟩) k cq, .func (.func 56) #[] #[]], .bool true]) ∧
      Ded (enF F T) (2 * n) h k ∧ w.heap.size ≤ q ∧ Sb q k h w' w' ∧ Below w.heap.size w w' := (plan_cap b cap n F T w h1 hR h).mono (by
    rintro e w' ⟨g, cg, q, k, cq, hh, rfl, ⟨q1, _⟩, q2, q3, q4⟩
    exact ⟨g, cg, q, k, cq, hh, rfl, q1, q2, q3, q4⟩)
end Go.Proofs.Ytmdgkhebefnfeab.C
