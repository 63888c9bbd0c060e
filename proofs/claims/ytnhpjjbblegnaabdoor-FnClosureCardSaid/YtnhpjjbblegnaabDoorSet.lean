/- Walks over chapter 1's sets of orders, for the program (over its table of the three orders) and for the model. -/
import Derived.Test.YtnhpjjbblegnaabDoorOne
namespace Go.Proofs.YtnhpjjbblegnaabDoor.C
open Go.RowKit
set_option linter.unusedVariables false

/-- The table of the three orders lies as the program's text lays it. -/
def TO (w : World) : Prop := Tb w 2 #[.int .i64 1, .int .i64 2, .int .i64 4]
theorem TO.below {w w' : World} (h : TO w) (hb : Below w.heap.size w w') : TO w' := Tb.below h hb (Tb.lt h)
/-- How a law's walk stands: the table lies, and nothing that was there has turned. -/
def St (w0 w : World) : Prop := TO w ∧ Below w0.heap.size w0 w
theorem St.start {w : World} (h : TO w) : St w w := ⟨h, Below.refl _ _⟩
theorem St.t {w0 w : World} (h : St w0 w) : TO w := h.1
theorem St.b {w0 w : World} (h : St w0 w) : Below w0.heap.size w0 w := h.2
theorem St.step {w0 w w' : World} (h : St w0 w) (hb : Below w.heap.size w w') : St w0 w' := ⟨h.1.below hb, h.2.trans (hb.mono h.2.size)⟩
theorem idx0 (w : World) : (Instr.index 133 (.agg #[.int .i64 1, .int .i64 2, .int .i64 4]) (.int .i64 0)).run Tryd.prog w = .ok (.int .i64 1) w := by kernel_rfl
theorem idx1 (w : World) : (Instr.index 133 (.agg #[.int .i64 1, .int .i64 2, .int .i64 4]) (.int .i64 1)).run Tryd.prog w = .ok (.int .i64 2) w := by kernel_rfl
theorem idx2 (w : World) : (Instr.index 133 (.agg #[.int .i64 1, .int .i64 2, .int .i64 4]) (.int .i64 2)).run Tryd.prog w = .ok (.int .i64 4) w := by kernel_rfl
theorem idx_any : ∀ (i : Nat) (_ : i < 3) (w : World), (Instr.index 133 (.agg #[.int .i64 1, .int .i64 2, .int .i64 4]) (.int .i64 (i : Int))).run Tryd.prog w = .ok (.int .i64 (oat i)) w
  | 0, _, w => idx0 w
  | 1, _, w => idx1 w
  | 2, _, w => idx2 w
theorem has_on (r o : Int) (w : World) (hr : pv r = true) (ho : Ord o) :
    Calls Tryd.prog 111 #[.int .i64 r, .int .i64 o] w fun e w' => e = .returned (.bool (hs r o)) ∧ w = w' :=
  (has_any r o w).mono fun e w' ⟨he, hw⟩ => ⟨by rw [he, hs_bits hr ho], hw⟩
theorem ordersOf_one (b off : Nat) (v : Int) (w : World) (hc : w.cell? ⟨b, off, none⟩ = some (.int .i64 v)) (hv : Ord v) :
    Calls Tryd.prog 140 #[.slice (some ⟨b, off, none⟩) 1 1] w fun e w' => e = .returned (.int .i64 v) ∧ w = w' := by
  rcases hv with rfl | rfl | rfl
  all_goals
    go_enter Tryd.func140, Tryd.ntmps140
    go_wp2
    go_rounds 2
    go_ret
    exact ⟨ret_int (by decide +kernel), rfl⟩
theorem ordersOf_new (b : Nat) (v : Int) (t : TypeId) (w : World) (hb : b = w.heap.size) (hv : Ord v) :
    Calls Tryd.prog 140 #[.slice (some ⟨b, 0, none⟩) 1 1] (w.alloc (.cells #[.int .i64 v] t)) fun e w' => e = .returned (.int .i64 v) ∧ w.alloc (.cells #[.int .i64 v] t) = w' := by
  subst hb
  exact ordersOf_one _ _ _ _ (new_cell _ _ _) hv
theorem ordersOf_all (b off : Nat) (w : World) (h0 : w.cell? ⟨b, off, none⟩ = some (.int .i64 1)) (h1 : w.cell? ⟨b, off + 1, none⟩ = some (.int .i64 2)) (h2 : w.cell? ⟨b, off + 2, none⟩ = some (.int .i64 4)) :
    Calls Tryd.prog 140 #[.slice (some ⟨b, off, none⟩) 3 3] w fun e w' => e = .returned (.int .i64 7) ∧ w = w' := by
  go_enter Tryd.func140, Tryd.ntmps140
  go_wp2
  go_rounds 4
  go_ret
  exact ⟨ret_int (by decide +kernel), rfl⟩
theorem ordersOf_none (w : World) :
    Calls Tryd.prog 140 #[.slice none 0 0] w fun e w' => e = .returned (.int .i64 0) ∧ w = w' := by
  go_enter Tryd.func140, Tryd.ntmps140
  go_wp2
  go_rounds 1
  go_ret
  exact ⟨ret_int (by decide +kernel), rfl⟩
theorem oturned_any (o : Int) (w : World) (ho : Ord o) :
    Calls Tryd.prog 154 #[.int .i64 o] w fun e w' => e = .returned (.int .i64 (tp o)) ∧ w = w' := by
  rcases ho with rfl | rfl | rfl
  all_goals
    go_enter Tryd.func154, Tryd.ntmps154
    go_wp2
    go_ret
    exact ⟨ret_int (by decide +kernel), rfl⟩
theorem turned_any (r : Int) (w : World) (hr : pv r = true) (hT : TO w) :
    Calls Tryd.prog 107 #[.int .i64 r] w fun e w' => e = .returned (.int .i64 (tp r)) ∧ Below w.heap.size w w' := by
  have c0 := Tb.cell hT 0 _ rfl
  have c1 := Tb.cell hT 1 _ rfl
  have c2 := Tb.cell hT 2 _ rfl
  have i0 := idx0
  have i1 := idx1
  have i2 := idx2
  rcases pv_cases hr with rfl | rfl | rfl | rfl | rfl | rfl | rfl | rfl
  all_goals
    go_enter Tryd.func107, Tryd.ntmps107
    go_wp2
    refine wp_loop_rounds 4 ?_
    iterate 4
      rw [rounds_succ]
      go_wp2_with (first | (go_at_call 111; refine (has_on _ _ _ (by decide) (by unfold Ord; omega)).mono ?_; rintro e w' ⟨rfl, rfl⟩) | (go_at_call 154; refine (oturned_any _ _ (by unfold Ord; omega)).mono ?_; rintro e w' ⟨rfl, rfl⟩) | (go_at_call 140; (with_reducible refine (ordersOf_new _ _ _ _ (by simp) (by unfold Ord; decide +kernel)).mono ?_); rintro e w' ⟨rfl, rfl⟩))
    go_ret
    exact ⟨ret_int (by decide +kernel), by go_grown⟩
theorem othen_any (o p : Int) (w : World) (ho : Ord o) (hp : Ord p) :
    Calls Tryd.prog 173 #[.int .i64 o, .int .i64 p] w fun e w' => e = .returned (.int .i64 (othen o p)) ∧ Below w.heap.size w w' := by
  rcases ho with rfl | rfl | rfl <;> rcases hp with rfl | rfl | rfl
  all_goals
    go_enter Tryd.func173, Tryd.ntmps173
    go_wp2_with (first | (go_at_call 140; (with_reducible refine (ordersOf_new _ _ _ _ (by simp) (by unfold Ord; decide +kernel)).mono ?_); rintro e w' ⟨rfl, rfl⟩) | (go_at_call 140; (with_reducible refine (ordersOf_all _ _ _ (by simp [go_sem]) (by simp [go_sem]) (by simp [go_sem])).mono ?_); rintro e w' ⟨rfl, rfl⟩))
    go_ret
    exact ⟨ret_int (by decide +kernel), by go_grown⟩
theorem iTurnPoint_any (r : Int) (w : World) (hT : TO w) :
    Calls Tryd.prog 50 #[.int .i64 r] w fun e w' => e = .returned (.int .i64 (tpp r)) ∧ Below w.heap.size w w' := by
  cases h : pv r
  all_goals
    have H := hid h
    clear h
    have hT' := hid hT
    clear hT
    go_enter Tryd.func50, Tryd.ntmps50
    go_wp2_with (first | (go_at_call 106; refine (iPointValid_any _ _).mono ?_; rintro e w' ⟨rfl, rfl⟩; rw [H.out]) | (go_at_call 107; refine (turned_any _ _ H.out hT'.out).mono ?_; rintro e w' ⟨rfl, hb⟩))
    go_ret
    exact ⟨ret_int (by first | rw [tpp_off H.out] | rw [tpp_on H.out]), by first | exact Below.refl _ _ | assumption⟩
end Go.Proofs.YtnhpjjbblegnaabDoor.C
