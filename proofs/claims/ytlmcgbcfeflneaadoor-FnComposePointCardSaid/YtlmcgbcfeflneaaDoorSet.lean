/- Walks over chapter 1's sets of orders, for the program (over its table of the three orders) and for the model. -/
import Derived.Test.YtlmcgbcfeflneaaDoorOne
namespace Go.Proofs.YtlmcgbcfeflneaaDoor.C
open Go.RowKit
set_option linter.unusedVariables false

/-- The table of the three orders lies as the program's text lays it. -/
def TO (w : World) : Prop := Tb w 0 #[.int .i64 1, .int .i64 2, .int .i64 4]
theorem TO.below {w w' : World} (h : TO w) (hb : Below w.heap.size w w') : TO w' := Tb.below h hb (Tb.lt h)
/-- How a law's walk stands: the table lies, and nothing that was there has turned. -/
def St (w0 w : World) : Prop := TO w ∧ Below w0.heap.size w0 w
theorem St.start {w : World} (h : TO w) : St w w := ⟨h, Below.refl _ _⟩
theorem St.t {w0 w : World} (h : St w0 w) : TO w := h.1
theorem St.b {w0 w : World} (h : St w0 w) : Below w0.heap.size w0 w := h.2
theorem St.step {w0 w w' : World} (h : St w0 w) (hb : Below w.heap.size w w') : St w0 w' := ⟨h.1.below hb, h.2.trans (hb.mono h.2.size)⟩
theorem idx0 (w : World) : (Instr.index 56 (.agg #[.int .i64 1, .int .i64 2, .int .i64 4]) (.int .i64 0)).run Tryd.prog w = .ok (.int .i64 1) w := by kernel_rfl
theorem idx1 (w : World) : (Instr.index 56 (.agg #[.int .i64 1, .int .i64 2, .int .i64 4]) (.int .i64 1)).run Tryd.prog w = .ok (.int .i64 2) w := by kernel_rfl
theorem idx2 (w : World) : (Instr.index 56 (.agg #[.int .i64 1, .int .i64 2, .int .i64 4]) (.int .i64 2)).run Tryd.prog w = .ok (.int .i64 4) w := by kernel_rfl
theorem idx_any : ∀ (i : Nat) (_ : i < 3) (w : World), (Instr.index 56 (.agg #[.int .i64 1, .int .i64 2, .int .i64 4]) (.int .i64 (i : Int))).run Tryd.prog w = .ok (.int .i64 (oat i)) w
  | 0, _, w => idx0 w
  | 1, _, w => idx1 w
  | 2, _, w => idx2 w
theorem has_on (r o : Int) (w : World) (hr : pv r = true) (ho : Ord o) :
    Calls Tryd.prog 36 #[.int .i64 r, .int .i64 o] w fun e w' => e = .returned (.bool (hs r o)) ∧ w = w' :=
  (has_any r o w).mono fun e w' ⟨he, hw⟩ => ⟨by rw [he, hs_bits hr ho], hw⟩
theorem ordersOf_one (b off : Nat) (v : Int) (w : World) (hc : w.cell? ⟨b, off, none⟩ = some (.int .i64 v)) (hv : Ord v) :
    Calls Tryd.prog 48 #[.slice (some ⟨b, off, none⟩) 1 1] w fun e w' => e = .returned (.int .i64 v) ∧ w = w' := by
  rcases hv with rfl | rfl | rfl
  all_goals
    go_enter Tryd.func48, Tryd.ntmps48
    go_wp2
    go_rounds 2
    go_ret
    exact ⟨ret_int (by decide +kernel), rfl⟩
theorem ordersOf_new (b : Nat) (v : Int) (t : TypeId) (w : World) (hb : b = w.heap.size) (hv : Ord v) :
    Calls Tryd.prog 48 #[.slice (some ⟨b, 0, none⟩) 1 1] (w.alloc (.cells #[.int .i64 v] t)) fun e w' => e = .returned (.int .i64 v) ∧ w.alloc (.cells #[.int .i64 v] t) = w' := by
  subst hb
  exact ordersOf_one _ _ _ _ (new_cell _ _ _) hv
theorem ordersOf_all (b off : Nat) (w : World) (h0 : w.cell? ⟨b, off, none⟩ = some (.int .i64 1)) (h1 : w.cell? ⟨b, off + 1, none⟩ = some (.int .i64 2)) (h2 : w.cell? ⟨b, off + 2, none⟩ = some (.int .i64 4)) :
    Calls Tryd.prog 48 #[.slice (some ⟨b, off, none⟩) 3 3] w fun e w' => e = .returned (.int .i64 7) ∧ w = w' := by
  go_enter Tryd.func48, Tryd.ntmps48
  go_wp2
  go_rounds 4
  go_ret
  exact ⟨ret_int (by decide +kernel), rfl⟩
theorem ordersOf_none (w : World) :
    Calls Tryd.prog 48 #[.slice none 0 0] w fun e w' => e = .returned (.int .i64 0) ∧ w = w' := by
  go_enter Tryd.func48, Tryd.ntmps48
  go_wp2
  go_rounds 1
  go_ret
  exact ⟨ret_int (by decide +kernel), rfl⟩
theorem oturned_any (o : Int) (w : World) (ho : Ord o) :
    Calls Tryd.prog 49 #[.int .i64 o] w fun e w' => e = .returned (.int .i64 (tp o)) ∧ w = w' := by
  rcases ho with rfl | rfl | rfl
  all_goals
    go_enter Tryd.func49, Tryd.ntmps49
    go_wp2
    go_ret
    exact ⟨ret_int (by decide +kernel), rfl⟩
theorem turned_any (r : Int) (w : World) (hr : pv r = true) (hT : TO w) :
    Calls Tryd.prog 37 #[.int .i64 r] w fun e w' => e = .returned (.int .i64 (tp r)) ∧ Below w.heap.size w w' := by
  have c0 := Tb.cell hT 0 _ rfl
  have c1 := Tb.cell hT 1 _ rfl
  have c2 := Tb.cell hT 2 _ rfl
  have i0 := idx0
  have i1 := idx1
  have i2 := idx2
  rcases pv_cases hr with rfl | rfl | rfl | rfl | rfl | rfl | rfl | rfl
  all_goals
    go_enter Tryd.func37, Tryd.ntmps37
    go_wp2
    refine wp_loop_rounds 4 ?_
    iterate 4
      rw [rounds_succ]
      go_wp2_with (first | (go_at_call 36; refine (has_on _ _ _ (by decide) (by unfold Ord; omega)).mono ?_; rintro e w' ⟨rfl, rfl⟩) | (go_at_call 49; refine (oturned_any _ _ (by unfold Ord; omega)).mono ?_; rintro e w' ⟨rfl, rfl⟩) | (go_at_call 48; (with_reducible refine (ordersOf_new _ _ _ _ (by simp) (by unfold Ord; decide +kernel)).mono ?_); rintro e w' ⟨rfl, rfl⟩))
    go_ret
    exact ⟨ret_int (by decide +kernel), by go_grown⟩
theorem othen_any (o p : Int) (w : World) (ho : Ord o) (hp : Ord p) :
    Calls Tryd.prog 54 #[.int .i64 o, .int .i64 p] w fun e w' => e = .returned (.int .i64 (othen o p)) ∧ Below w.heap.size w w' := by
  rcases ho with rfl | rfl | rfl <;> rcases hp with rfl | rfl | rfl
  all_goals
    go_enter Tryd.func54, Tryd.ntmps54
    go_wp2_with (first | (go_at_call 48; (with_reducible refine (ordersOf_new _ _ _ _ (by simp) (by unfold Ord; decide +kernel)).mono ?_); rintro e w' ⟨rfl, rfl⟩) | (go_at_call 48; (with_reducible refine (ordersOf_all _ _ _ (by simp [go_sem]) (by simp [go_sem]) (by simp [go_sem])).mono ?_); rintro e w' ⟨rfl, rfl⟩))
    go_ret
    exact ⟨ret_int (by decide +kernel), by go_grown⟩
set_option maxHeartbeats 1000000 in
theorem then_any (s t : Int) (w : World) (hS : pv s = true) (hR : pv t = true) (hT : TO w) :
    Calls Tryd.prog 44 #[.int .i64 s, .int .i64 t] w fun e w' => e = .returned (.int .i64 (cps s t)) ∧ Below w.heap.size w w' := by
  have c0 := Tb.cell hT 0 _ rfl
  have c1 := Tb.cell hT 1 _ rfl
  have c2 := Tb.cell hT 2 _ rfl
  have i0 := idx0
  have i1 := idx1
  have i2 := idx2
  go_enter Tryd.func44, Tryd.ntmps44
  go_wp2
  go_loopw [5, 11] (fun acc k wr => ∃ i : Nat, i ≤ 3 ∧ k = .int .i64 i ∧ acc = .int .i64 (thnI s t i) ∧ Below w.heap.size w wr) (fun _ k _ => 3 - (intOf k).toNat)
  case atStart => exact ⟨0, by omega, rfl, rfl, Below.refl _ _⟩
  case round =>
    obtain ⟨i, hi, rfl, rfl, hb⟩ := hrel
    have hTr := hT.below hb
    have d0 := Tb.cell hTr 0 _ rfl
    have d1 := Tb.cell hTr 1 _ rfl
    have d2 := Tb.cell hTr 2 _ rfl
    clear c0 c1 c2
    obtain ⟨wo, rfl⟩ : ∃ wo : World, wo = wr := ⟨_, rfl⟩
    by_cases h3 : i < 3
    · have ix := idx_any i h3
      have HO := oat_Ord i
      have hdi : decide ((i : Int) < 3) = true := by simp; omega
      go_wp2
      go_loopw [5, 15] (fun acc k wr => ∃ j : Nat, j ≤ 3 ∧ k = .int .i64 j ∧ acc = .int .i64 (thnJ s t (thnI s t i) (oat i) j) ∧ Below w.heap.size w wr) (fun _ k _ => 3 - (intOf k).toNat)
      case atStart => exact ⟨0, by omega, rfl, rfl, hb⟩
      case round =>
        obtain ⟨j, hj, rfl, rfl, hb2⟩ := hrel
        by_cases h4 : j < 3
        · have jx := idx_any j h4
          have HP := oat_Ord j
          cases h1 : hs s (oat i) <;> cases h2 : hs t (oat j)
          all_goals
            have H1 := hid h1
            have H2 := hid h2
            clear h1 h2
            go_wp2_with (first | (go_at_call 36; (with_reducible refine (has_on s _ _ hS HO).mono ?_); rintro e w' ⟨rfl, rfl⟩; rw [H1.out]) | (go_at_call 36; (with_reducible refine (has_on t _ _ hR HP).mono ?_); rintro e w' ⟨rfl, rfl⟩; rw [H2.out]) | (go_at_call 54; (with_reducible refine (othen_any _ _ _ HO HP).mono ?_); rintro e w' ⟨rfl, hb3⟩))
            go_roundw
            case rel =>
              refine ⟨j + 1, by omega, ?_, ?_, ?_⟩
              · go_num
              · exact ret_val (by simp [thnJ, tstep, H1.out, H2.out, bor])
              · first | exact hb2 | exact hb2.trans (hb3.mono hb2.size)
            case measure => simp [intOf]; omega
        · obtain rfl : j = 3 := by omega
          go_wp2
          go_roundw
          case rel => exact ⟨i + 1, by omega, by go_num, rfl, hb2⟩
          case measure => simp [intOf]; omega
    · obtain rfl : i = 3 := by omega
      go_wp2
      go_ret
      exact ⟨ret_int rfl, hb⟩
theorem sTurnPoint_any (r : Int) (w : World) :
    Calls Tryd.prog 29 #[.int .i64 r] w fun e w' => e = .returned (.int .i64 (tpp r)) ∧ w = w' := by
  cases h : pv r
  · have H := hid h
    clear h
    go_enter Tryd.func29, Tryd.ntmps29
    go_wp2_with (go_at_call 21; refine (sPointValid_any _ _).mono ?_; rintro e w' ⟨rfl, rfl⟩; rw [H.out])
    go_ret
    exact ⟨ret_int (tpp_off H.out).symm, rfl⟩
  · rcases pv_cases h with rfl | rfl | rfl | rfl | rfl | rfl | rfl | rfl
    all_goals
      clear h
      go_enter Tryd.func29, Tryd.ntmps29
      go_wp2
      go_ret
      exact ⟨ret_int (by decide +kernel), rfl⟩
theorem iTurnPoint_any (r : Int) (w : World) (hT : TO w) :
    Calls Tryd.prog 15 #[.int .i64 r] w fun e w' => e = .returned (.int .i64 (tpp r)) ∧ Below w.heap.size w w' := by
  cases h : pv r
  all_goals
    have H := hid h
    clear h
    have hT' := hid hT
    clear hT
    go_enter Tryd.func15, Tryd.ntmps15
    go_wp2_with (first | (go_at_call 20; refine (iPointValid_any _ _).mono ?_; rintro e w' ⟨rfl, rfl⟩; rw [H.out]) | (go_at_call 37; refine (turned_any _ _ H.out hT'.out).mono ?_; rintro e w' ⟨rfl, hb⟩))
    go_ret
    exact ⟨ret_int (by first | rw [tpp_off H.out] | rw [tpp_on H.out]), by first | exact Below.refl _ _ | assumption⟩
theorem walk_FnExactTurnPoint (a0 : Int) (w : World) (w0 : (Lit.int .i64 a0).wf = true) (hT : TO w) :
    Calls Tryd.prog 9 #[.int .i64 a0] w fun e w' => e = .returned (.bool true) ∧ Below w.heap.size w w' := by
  clear w0
  go_enter Tryd.func9, Tryd.ntmps9
  go_wp2_with (first | (go_at_call 29; refine (sTurnPoint_any _ _).mono ?_; rintro e w' ⟨rfl, rfl⟩) | (go_at_call 15; refine (iTurnPoint_any _ _ hT).mono ?_; rintro e w' ⟨rfl, hb⟩))
  go_ret
  exact ⟨rfl, by first | exact Below.refl _ _ | assumption⟩
set_option maxHeartbeats 1000000 in
theorem l1Compose_any (r s : Int) (w : World) (hR : pv r = true) (hS : pv s = true) :
    Calls Tryd.prog 45 #[.int .i64 r, .int .i64 s] w fun e w' => e = .returned (.int .i64 (cps r s)) ∧ w = w' := by
  go_enter Tryd.func45, Tryd.ntmps45
  go_wp2
  go_loop [5, 6, 7] (fun acc k _ => ∃ x : Nat, x ≤ 5 ∧ k = .int .i64 x ∧ acc = .int .i64 (scI r s x)) (fun _ k _ => 5 - (intOf k).toNat)
  case atStart => exact ⟨0, by omega, rfl, rfl⟩
  case round =>
    obtain ⟨x, hx, rfl, rfl⟩ := hrel
    by_cases h3 : x < 5
    · have hdi : decide ((x : Int) < 5) = true := by simp; omega
      go_wp2
      go_loop [5, 7] (fun acc k => ∃ y : Nat, y ≤ 5 ∧ k = .int .i64 y ∧ acc = .int .i64 (scJ r s (scI r s x) x y)) (fun _ k => 5 - (intOf k).toNat)
      case atStart => exact ⟨0, by omega, rfl, rfl⟩
      case round =>
        obtain ⟨y, hy, rfl, rfl⟩ := hrel
        by_cases h4 : y < 5
        · cases h1 : (bits .and .i64 r (ord x 2) != 0) <;> cases h2 : (bits .and .i64 s (ord 2 y) != 0)
          all_goals
            have H1 := hid h1
            have H2 := hid h2
            go_wp2_with (go_at_call 35; (with_reducible refine (l1Order_any _ _ _).mono ?_); rintro e w' ⟨rfl, rfl⟩)
            go_round
            case rel =>
              refine ⟨y + 1, by omega, ?_, ?_⟩
              · go_num
              · exact ret_val (by simp [scJ, sstep, H1.out, H2.out, bor])
            case measure => simp [intOf]; omega
        · obtain rfl : y = 5 := by omega
          go_wp2
          go_round
          case rel => exact ⟨x + 1, by omega, by go_num, rfl⟩
          case measure => simp [intOf]; omega
    · obtain rfl : x = 5 := by omega
      go_wp2
      go_ret
      exact ⟨ret_int (scI_cps hR hS), rfl⟩
theorem sComposePoint_any (r s : Int) (w : World) :
    Calls Tryd.prog 27 #[.int .i64 r, .int .i64 s] w fun e w' => e = .returned (.int .i64 (cpp r s)) ∧ w = w' := by
  cases h1 : pv r <;> cases h2 : pv s
  all_goals
    have H1 := hid h1
    have H2 := hid h2
    clear h1 h2
    go_enter Tryd.func27, Tryd.ntmps27
    go_wp2_with (first | (go_at_call 21; (with_reducible refine (sPointValid_any r _).mono ?_); rintro e w' ⟨rfl, rfl⟩; rw [H1.out]) | (go_at_call 21; (with_reducible refine (sPointValid_any s _).mono ?_); rintro e w' ⟨rfl, rfl⟩; rw [H2.out]) | (go_at_call 45; refine (l1Compose_any _ _ _ H1.out H2.out).mono ?_; rintro e w' ⟨rfl, rfl⟩))
    go_ret
    exact ⟨ret_int (by first | rw [cpp_off1 H1.out] | rw [cpp_off2 H2.out] | rw [cpp_on H1.out H2.out]), rfl⟩
theorem iComposePoint_any (r s : Int) (w : World) (hT : TO w) :
    Calls Tryd.prog 26 #[.int .i64 r, .int .i64 s] w fun e w' => e = .returned (.int .i64 (cpp r s)) ∧ Below w.heap.size w w' := by
  have HT := hid hT
  clear hT
  cases h1 : pv r <;> cases h2 : pv s
  all_goals
    have H1 := hid h1
    have H2 := hid h2
    clear h1 h2
    go_enter Tryd.func26, Tryd.ntmps26
    go_wp2_with (first | (go_at_call 20; (with_reducible refine (iPointValid_any r _).mono ?_); rintro e w' ⟨rfl, rfl⟩; rw [H1.out]) | (go_at_call 20; (with_reducible refine (iPointValid_any s _).mono ?_); rintro e w' ⟨rfl, rfl⟩; rw [H2.out]) | (go_at_call 44; refine (then_any _ _ _ H1.out H2.out HT.out).mono ?_; rintro e w' ⟨rfl, hb⟩))
    go_ret
    exact ⟨ret_int (by first | rw [cpp_off1 H1.out] | rw [cpp_off2 H2.out] | rw [cpp_on H1.out H2.out]), by first | exact Below.refl _ _ | assumption⟩
theorem walk_FnExactComposePoint (a0 a1 : Int) (w : World) (w0 : (Lit.int .i64 a0).wf = true) (w1 : (Lit.int .i64 a1).wf = true) (hT : TO w) :
    Calls Tryd.prog 10 #[.int .i64 a0, .int .i64 a1] w fun e w' => e = .returned (.bool true) ∧ Below w.heap.size w w' := by
  clear w0 w1
  go_enter Tryd.func10, Tryd.ntmps10
  go_wp2_with (first | (go_at_call 27; refine (sComposePoint_any _ _ _).mono ?_; rintro e w' ⟨rfl, rfl⟩) | (go_at_call 26; refine (iComposePoint_any _ _ _ hT).mono ?_; rintro e w' ⟨rfl, hb⟩))
  go_ret
  exact ⟨rfl, by first | exact Below.refl _ _ | assumption⟩
end Go.Proofs.YtlmcgbcfeflneaaDoor.C
