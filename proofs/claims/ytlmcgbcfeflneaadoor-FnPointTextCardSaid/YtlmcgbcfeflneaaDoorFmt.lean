/- Chapter 1's texts of sets of orders. -/
import Derived.Test.YtlmcgbcfeflneaaDoorSet
import Derived.Test.YtlmcgbcfeflneaaDoorBuilder
namespace Go.Proofs.YtlmcgbcfeflneaaDoor.C
open Go.RowKit
set_option linter.unusedVariables false
theorem sFormatPoint_any (r : Int) (w : World) :
    Calls Tryd.prog 19 #[.int .i64 r] w fun e w' => e = .returned (.string (fpt r)) ∧ w = w' := by
  cases h : pv r
  · have H := hid h
    clear h
    go_enter Tryd.func19, Tryd.ntmps19
    go_wp2_with (go_at_call 21; (with_reducible refine (sPointValid_any _ _).mono ?_); rintro e w' ⟨rfl, rfl⟩; rw [H.out])
    go_ret
    exact ⟨ret_str (fpt_off H.out).symm, rfl⟩
  · have b0 : bits .and .i64 0 1 = 0 := by decide +kernel
    have b1 : bits .and .i64 1 1 = 1 := by decide +kernel
    have b2 : bits .and .i64 2 1 = 0 := by decide +kernel
    have b3 : bits .and .i64 3 1 = 1 := by decide +kernel
    have b4 : bits .and .i64 4 1 = 0 := by decide +kernel
    have b5 : bits .and .i64 5 1 = 1 := by decide +kernel
    have b6 : bits .and .i64 6 1 = 0 := by decide +kernel
    have b7 : bits .and .i64 7 1 = 1 := by decide +kernel
    rcases pv_cases h with rfl | rfl | rfl | rfl | rfl | rfl | rfl | rfl
    all_goals
      clear h
      go_enter Tryd.func19, Tryd.ntmps19
      go_wp2
      go_rounds 4
      all_goals
        rename_i hx
        first | exact absurd hx (by decide +kernel) | (go_ret; refine ⟨ret_str ?_, rfl⟩; decide +kernel)
def osg (o : Int) : ByteArray := if o = 1 then ⟨#[60]⟩ else if o = 2 then ⟨#[61]⟩ else ⟨#[62]⟩
theorem sign_any (o : Int) (w : World) (ho : Ord o) :
    Calls Tryd.prog 52 #[.int .i64 o] w fun e w' => e = .returned (.string (osg o)) ∧ w = w' := by
  rcases ho with rfl | rfl | rfl
  all_goals
    go_enter Tryd.func52, Tryd.ntmps52
    go_wp2
    go_ret
    exact ⟨ret_str (by decide +kernel), rfl⟩
set_option maxHeartbeats 2000000 in
theorem text_any (r : Int) (w : World) (hr : pv r = true) (hT : TO w) :
    Calls Tryd.prog 40 #[.int .i64 r] w fun e w' => e = .returned (.string ⟨(fpl r).toArray⟩) ∧ Below w.heap.size w w' := by
  have c0 := Tb.cell hT 0 _ rfl
  have c1 := Tb.cell hT 1 _ rfl
  have c2 := Tb.cell hT 2 _ rfl
  have d0 : ∀ o, (w.alloc o).cell? ⟨0, 0, none⟩ = some (.int .i64 1) := fun o => by rw [Tb.cell (hT.below ((Below.refl w.heap.size w).alloc (Nat.le_refl _) o)) 0 _ rfl]; rfl
  have d1 : ∀ o, (w.alloc o).cell? ⟨0, 1, none⟩ = some (.int .i64 2) := fun o => by rw [Tb.cell (hT.below ((Below.refl w.heap.size w).alloc (Nat.le_refl _) o)) 1 _ rfl]; rfl
  have d2 : ∀ o, (w.alloc o).cell? ⟨0, 2, none⟩ = some (.int .i64 4) := fun o => by rw [Tb.cell (hT.below ((Below.refl w.heap.size w).alloc (Nat.le_refl _) o)) 2 _ rfl]; rfl
  have i0 := idx0
  have i1 := idx1
  have i2 := idx2
  have hb0 := Bw.start w w (Below.refl _ _)
  rcases pv_cases hr with rfl | rfl | rfl | rfl | rfl | rfl | rfl | rfl
  all_goals
    go_enter Tryd.func40, Tryd.ntmps40
    go_wp2_with (go_at_call 48; (with_reducible refine (ordersOf_none _).mono ?_); rintro e w' ⟨rfl, rfl⟩)
    try (refine wp_loop_rounds 4 ?_)
    iterate 4
      try rw [rounds_succ]
      go_wp2_with (first | (go_at_call 36; (with_reducible refine (has_on _ _ _ (by decide) (by unfold Ord; omega)).mono ?_); rintro e w' ⟨rfl, rfl⟩) | (go_at_call 52; (with_reducible refine (sign_any _ _ (by unfold Ord; omega)).mono ?_); rintro e w' ⟨rfl, rfl⟩) | (go_at_call 51; (with_reducible refine (WriteString_w w _ _ _ _ (by assumption) (by decide +kernel)).mono ?_); rintro e w' ⟨rfl, hbw⟩) | (go_at_call 53; (with_reducible refine (String_w w _ _ _ (by assumption)).mono ?_); rintro e w' ⟨rfl, hbel⟩))
    go_ret
    exact ⟨ret_str (by decide +kernel), by first | exact Below.refl _ _ | assumption⟩
end Go.Proofs.YtlmcgbcfeflneaaDoor.C
