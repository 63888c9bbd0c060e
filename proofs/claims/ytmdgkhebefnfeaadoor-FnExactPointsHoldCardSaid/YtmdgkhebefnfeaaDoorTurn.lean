/- Walks over chapter 1's sets of orders, for the program (over its table of the three orders) and for the model. Walks over the orders of the ends of two intervals in a basic relation, turned and mirrored ones. Walks over turned and mirrored basic relations. -/
import Derived.Test.YtmdgkhebefnfeaaDoorTwo
import Derived.Test.YtmdgkhebefnfeaaDoorTab
import Derived.Deep.RegionWith
import Derived.Deep.RegionHeld3
import Derived.DeepKeys
namespace Go.Proofs.YtmdgkhebefnfeaaDoor.C
section
open Go.RowKit
set_option linter.unusedVariables false

/-- The table of the three orders lies as the program's text lays it. -/
def TO (w : World) : Prop := Tb w 0 #[.int .i64 1, .int .i64 2, .int .i64 4]
theorem TO.below {w w' : World} (h : TO w) (hb : Below w.heap.size w w') : TO w' := Tb.below h hb (Tb.lt h)
/-- How a law's walk stands: the table lies, and nothing that was there has turned. -/
def St (w0 w : World) : Prop := TO w ∧ Below w0.heap.size w0 w
theorem St.start {w : World} (h : TO w) : St w w := ⟨h, Below.refl _ _⟩
theorem St.t {w0 w : World} (h : St w0 w) : TO w := h.1
theorem St.b {w0 w : World} (h : St w0 w) : Below w0.heap.size w0 w := h.2
theorem St.step {w0 w w' : World} (h : St w0 w) (hb : Below w.heap.size w w') : St w0 w' := ⟨h.1.below hb, h.2.trans (hb.mono h.2.size)⟩
theorem idx0 (w : World) : (Instr.index 171 (.agg #[.int .i64 1, .int .i64 2, .int .i64 4]) (.int .i64 0)).run Tryd.prog w = .ok (.int .i64 1) w := by kernel_rfl
theorem idx1 (w : World) : (Instr.index 171 (.agg #[.int .i64 1, .int .i64 2, .int .i64 4]) (.int .i64 1)).run Tryd.prog w = .ok (.int .i64 2) w := by kernel_rfl
theorem idx2 (w : World) : (Instr.index 171 (.agg #[.int .i64 1, .int .i64 2, .int .i64 4]) (.int .i64 2)).run Tryd.prog w = .ok (.int .i64 4) w := by kernel_rfl
theorem idx_any : ∀ (i : Nat) (_ : i < 3) (w : World), (Instr.index 171 (.agg #[.int .i64 1, .int .i64 2, .int .i64 4]) (.int .i64 (i : Int))).run Tryd.prog w = .ok (.int .i64 (oat i)) w
  | 0, _, w => idx0 w
  | 1, _, w => idx1 w
  | 2, _, w => idx2 w
theorem has_on (r o : Int) (w : World) (hr : pv r = true) (ho : Ord o) :
    Calls Tryd.prog 112 #[.int .i64 r, .int .i64 o] w fun e w' => e = .returned (.bool (hs r o)) ∧ w = w' :=
  (has_any r o w).mono fun e w' ⟨he, hw⟩ => ⟨by rw [he, hs_bits hr ho], hw⟩
theorem ordersOf_one (b off : Nat) (v : Int) (w : World) (hc : w.cell? ⟨b, off, none⟩ = some (.int .i64 v)) (hv : Ord v) :
    Calls Tryd.prog 106 #[.slice (some ⟨b, off, none⟩) 1 1] w fun e w' => e = .returned (.int .i64 v) ∧ w = w' := by
  rcases hv with rfl | rfl | rfl
  all_goals
    go_enter Tryd.func106, Tryd.ntmps106
    go_wp2
    go_rounds 2
    go_ret
    exact ⟨ret_int (by decide +kernel), rfl⟩
theorem ordersOf_new (b : Nat) (v : Int) (t : TypeId) (w : World) (hb : b = w.heap.size) (hv : Ord v) :
    Calls Tryd.prog 106 #[.slice (some ⟨b, 0, none⟩) 1 1] (w.alloc (.cells #[.int .i64 v] t)) fun e w' => e = .returned (.int .i64 v) ∧ w.alloc (.cells #[.int .i64 v] t) = w' := by
  subst hb
  exact ordersOf_one _ _ _ _ (new_cell _ _ _) hv
theorem ordersOf_all (b off : Nat) (w : World) (h0 : w.cell? ⟨b, off, none⟩ = some (.int .i64 1)) (h1 : w.cell? ⟨b, off + 1, none⟩ = some (.int .i64 2)) (h2 : w.cell? ⟨b, off + 2, none⟩ = some (.int .i64 4)) :
    Calls Tryd.prog 106 #[.slice (some ⟨b, off, none⟩) 3 3] w fun e w' => e = .returned (.int .i64 7) ∧ w = w' := by
  go_enter Tryd.func106, Tryd.ntmps106
  go_wp2
  go_rounds 4
  go_ret
  exact ⟨ret_int (by decide +kernel), rfl⟩
theorem ordersOf_none (w : World) :
    Calls Tryd.prog 106 #[.slice none 0 0] w fun e w' => e = .returned (.int .i64 0) ∧ w = w' := by
  go_enter Tryd.func106, Tryd.ntmps106
  go_wp2
  go_rounds 1
  go_ret
  exact ⟨ret_int (by decide +kernel), rfl⟩
theorem oturned_any (o : Int) (w : World) (ho : Ord o) :
    Calls Tryd.prog 150 #[.int .i64 o] w fun e w' => e = .returned (.int .i64 (tp o)) ∧ w = w' := by
  rcases ho with rfl | rfl | rfl
  all_goals
    go_enter Tryd.func150, Tryd.ntmps150
    go_wp2
    go_ret
    exact ⟨ret_int (by decide +kernel), rfl⟩
theorem turned_any (r : Int) (w : World) (hr : pv r = true) (hT : TO w) :
    Calls Tryd.prog 107 #[.int .i64 r] w fun e w' => e = .returned (.int .i64 (tp r)) ∧ Below w.heap.size w w' := by
  have c0 := Tb.cell hT 0 _ rfl
  have c1 := Tb.cell hT 1 _ rfl
  have c2 := Tb.cell hT 2 _ rfl
  have i0 := idx0
  have i1 := idx1
  have i2 := idx2
  rcases pv_cases hr with rfl | rfl | rfl | rfl | rfl | rfl | rfl | rfl
  all_goals
    go_enter Tryd.func107, Tryd.ntmps107
    go_wp2
    refine wp_loop_rounds 4 ?_
    iterate 4
      rw [rounds_succ]
      go_wp2_with (first | (go_at_call 112; refine (has_on _ _ _ (by decide) (by unfold Ord; omega)).mono ?_; rintro e w' ⟨rfl, rfl⟩) | (go_at_call 150; refine (oturned_any _ _ (by unfold Ord; omega)).mono ?_; rintro e w' ⟨rfl, rfl⟩) | (go_at_call 106; (with_reducible refine (ordersOf_new _ _ _ _ (by simp) (by unfold Ord; decide +kernel)).mono ?_); rintro e w' ⟨rfl, rfl⟩))
    go_ret
    exact ⟨ret_int (by decide +kernel), by go_grown⟩
theorem othen_any (o p : Int) (w : World) (ho : Ord o) (hp : Ord p) :
    Calls Tryd.prog 182 #[.int .i64 o, .int .i64 p] w fun e w' => e = .returned (.int .i64 (othen o p)) ∧ Below w.heap.size w w' := by
  rcases ho with rfl | rfl | rfl <;> rcases hp with rfl | rfl | rfl
  all_goals
    go_enter Tryd.func182, Tryd.ntmps182
    go_wp2_with (first | (go_at_call 106; (with_reducible refine (ordersOf_new _ _ _ _ (by simp) (by unfold Ord; decide +kernel)).mono ?_); rintro e w' ⟨rfl, rfl⟩) | (go_at_call 106; (with_reducible refine (ordersOf_all _ _ _ (by simp [go_sem]) (by simp [go_sem]) (by simp [go_sem])).mono ?_); rintro e w' ⟨rfl, rfl⟩))
    go_ret
    exact ⟨ret_int (by decide +kernel), by go_grown⟩
set_option maxHeartbeats 1000000 in
theorem then_any (s t : Int) (w : World) (hS : pv s = true) (hR : pv t = true) (hT : TO w) :
    Calls Tryd.prog 164 #[.int .i64 s, .int .i64 t] w fun e w' => e = .returned (.int .i64 (cps s t)) ∧ Below w.heap.size w w' := by
  have c0 := Tb.cell hT 0 _ rfl
  have c1 := Tb.cell hT 1 _ rfl
  have c2 := Tb.cell hT 2 _ rfl
  have i0 := idx0
  have i1 := idx1
  have i2 := idx2
  go_enter Tryd.func164, Tryd.ntmps164
  go_wp2
  go_loopw [5, 11] (fun acc k wr => ∃ i : Nat, i ≤ 3 ∧ k = .int .i64 i ∧ acc = .int .i64 (thnI s t i) ∧ Below w.heap.size w wr) (fun _ k _ => 3 - (intOf k).toNat)
  case atStart => exact ⟨0, by omega, rfl, rfl, Below.refl _ _⟩
  case round =>
    obtain ⟨i, hi, rfl, rfl, hb⟩ := hrel
    have hTr := hT.below hb
    have d0 := Tb.cell hTr 0 _ rfl
    have d1 := Tb.cell hTr 1 _ rfl
    have d2 := Tb.cell hTr 2 _ rfl
    clear c0 c1 c2
    obtain ⟨wo, rfl⟩ : ∃ wo : World, wo = wr := ⟨_, rfl⟩
    by_cases h3 : i < 3
    · have ix := idx_any i h3
      have HO := oat_Ord i
      have hdi : decide ((i : Int) < 3) = true := by simp; omega
      go_wp2
      go_loopw [5, 15] (fun acc k wr => ∃ j : Nat, j ≤ 3 ∧ k = .int .i64 j ∧ acc = .int .i64 (thnJ s t (thnI s t i) (oat i) j) ∧ Below w.heap.size w wr) (fun _ k _ => 3 - (intOf k).toNat)
      case atStart => exact ⟨0, by omega, rfl, rfl, hb⟩
      case round =>
        obtain ⟨j, hj, rfl, rfl, hb2⟩ := hrel
        by_cases h4 : j < 3
        · have jx := idx_any j h4
          have HP := oat_Ord j
          cases h1 : hs s (oat i) <;> cases h2 : hs t (oat j)
          all_goals
            have H1 := hid h1
            have H2 := hid h2
            clear h1 h2
            go_wp2_with (first | (go_at_call 112; (with_reducible refine (has_on s _ _ hS HO).mono ?_); rintro e w' ⟨rfl, rfl⟩; rw [H1.out]) | (go_at_call 112; (with_reducible refine (has_on t _ _ hR HP).mono ?_); rintro e w' ⟨rfl, rfl⟩; rw [H2.out]) | (go_at_call 182; (with_reducible refine (othen_any _ _ _ HO HP).mono ?_); rintro e w' ⟨rfl, hb3⟩))
            go_roundw
            case rel =>
              refine ⟨j + 1, by omega, ?_, ?_, ?_⟩
              · go_num
              · exact ret_val (by simp [thnJ, tstep, H1.out, H2.out, bor])
              · first | exact hb2 | exact hb2.trans (hb3.mono hb2.size)
            case measure => simp [intOf]; omega
        · obtain rfl : j = 3 := by omega
          go_wp2
          go_roundw
          case rel => exact ⟨i + 1, by omega, by go_num, rfl, hb2⟩
          case measure => simp [intOf]; omega
    · obtain rfl : i = 3 := by omega
      go_wp2
      go_ret
      exact ⟨ret_int rfl, hb⟩
set_option maxHeartbeats 1000000 in
theorem l1Compose_any (r s : Int) (w : World) (hR : pv r = true) (hS : pv s = true) :
    Calls Tryd.prog 137 #[.int .i64 r, .int .i64 s] w fun e w' => e = .returned (.int .i64 (cps r s)) ∧ w = w' := by
  go_enter Tryd.func137, Tryd.ntmps137
  go_wp2
  go_loop [5, 6, 7] (fun acc k _ => ∃ x : Nat, x ≤ 5 ∧ k = .int .i64 x ∧ acc = .int .i64 (scI r s x)) (fun _ k _ => 5 - (intOf k).toNat)
  case atStart => exact ⟨0, by omega, rfl, rfl⟩
  case round =>
    obtain ⟨x, hx, rfl, rfl⟩ := hrel
    by_cases h3 : x < 5
    · have hdi : decide ((x : Int) < 5) = true := by simp; omega
      go_wp2
      go_loop [5, 7] (fun acc k => ∃ y : Nat, y ≤ 5 ∧ k = .int .i64 y ∧ acc = .int .i64 (scJ r s (scI r s x) x y)) (fun _ k => 5 - (intOf k).toNat)
      case atStart => exact ⟨0, by omega, rfl, rfl⟩
      case round =>
        obtain ⟨y, hy, rfl, rfl⟩ := hrel
        by_cases h4 : y < 5
        · cases h1 : (bits .and .i64 r (ord x 2) != 0) <;> cases h2 : (bits .and .i64 s (ord 2 y) != 0)
          all_goals
            have H1 := hid h1
            have H2 := hid h2
            go_wp2_with (go_at_call 154; (with_reducible refine (l1Order_any _ _ _).mono ?_); rintro e w' ⟨rfl, rfl⟩)
            go_round
            case rel =>
              refine ⟨y + 1, by omega, ?_, ?_⟩
              · go_num
              · exact ret_val (by simp [scJ, sstep, H1.out, H2.out, bor])
            case measure => simp [intOf]; omega
        · obtain rfl : y = 5 := by omega
          go_wp2
          go_round
          case rel => exact ⟨x + 1, by omega, by go_num, rfl⟩
          case measure => simp [intOf]; omega
    · obtain rfl : x = 5 := by omega
      go_wp2
      go_ret
      exact ⟨ret_int (scI_cps hR hS), rfl⟩
end
section
open Go.RowKit
set_option linter.unusedVariables false
set_option linter.unusedSimpArgs false
theorem orderTo_any (x y : Int) (w : World) :
    Calls Tryd.prog 163 #[.int .i64 x, .int .i64 y] w fun e w' => e = .returned (.int .i64 (ord x y)) ∧ w = w' := by
  have HS := AllLt.start w; go_enter Tryd.func163, Tryd.ntmps163
  go_wp2_with (first | (go_at_call 156; (with_reducible refine (compareNumbers_any _ _ _).mono ?_); rintro e w' ⟨rfl, rfl⟩))
  go_ret
  exact ⟨rfl, rfl⟩
theorem ends_any (k : Nat) (hk : k < 13) (w : World) (hT : TB w) :
    Calls Tryd.prog 132 #[.int .i64 k] w fun e w' => e = .returned (.agg #[.int .i64 (ord (zf k) 1), .int .i64 (ord (zf k) 3), .int .i64 (ord (zt k) 1), .int .i64 (ord (zt k) 3)]) ∧ Below w.heap.size w w' := by
  have HT := hid hT
  clear hT
  have hB1 : Hid (∀ o, TB (w.alloc o)) := hid fun o => HT.out.below ((Below.refl _ _).alloc (Nat.le_refl _) _)
  have HS := AllLt.start w; go_enter Tryd.func132, Tryd.ntmps132
  go_wp2_with (first | (go_at_call 162; (with_reducible refine (zones_any k hk _ (hB1.out _)).mono ?_); rintro e w' ⟨rfl, n, rfl⟩) | (go_at_call 163; (with_reducible refine (orderTo_any _ _ _).mono ?_); rintro e w' ⟨rfl, rfl⟩))
  refine bodyPost_ret (by simp [results, Tryd.results132, go_sem, *]; try rfl) rfl ?_
  exact ⟨rfl, by (repeat' (first | (with_reducible exact Below.refl _ _) | (with_reducible refine Below.setCell ?_ ?_ _) | (with_reducible refine below_drewN' ?_ _) | (with_reducible refine below_drew' ?_) | (with_reducible refine Below.alloc ?_ ?_ _) | (with_reducible assumption) | go_size))⟩
set_option maxHeartbeats 1000000 in
theorem eturned_any (a b c d : Int) (w : World) (ha : Ord a) (hb : Ord b) (hc : Ord c) (hd : Ord d) :
    Calls Tryd.prog 238 #[.agg #[.int .i64 a, .int .i64 b, .int .i64 c, .int .i64 d]] w fun e w' => e = .returned (.agg #[.int .i64 (tp a), .int .i64 (tp c), .int .i64 (tp b), .int .i64 (tp d)]) ∧ Below w.heap.size w w' := by
  have HS := AllLt.start w; go_enter Tryd.func238, Tryd.ntmps238
  go_wp2
  go_region_held3 (fun w' => w'.cell? ⟨w.heap.size, 0, none⟩ = some (.int .i64 a) ∧ w'.cell? ⟨w.heap.size, 1, none⟩ = some (.int .i64 b) ∧ w'.cell? ⟨w.heap.size, 2, none⟩ = some (.int .i64 c) ∧ w'.cell? ⟨w.heap.size, 3, none⟩ = some (.int .i64 d)) (go_keep)
    (first | (go_at_call 150; (with_reducible refine (oturned_any a _ ha).mono ?_); rintro e w' ⟨rfl, rfl⟩) | (go_at_call 150; (with_reducible refine (oturned_any b _ hb).mono ?_); rintro e w' ⟨rfl, rfl⟩) | (go_at_call 150; (with_reducible refine (oturned_any c _ hc).mono ?_); rintro e w' ⟨rfl, rfl⟩) | (go_at_call 150; (with_reducible refine (oturned_any d _ hd).mono ?_); rintro e w' ⟨rfl, rfl⟩))
  all_goals
    go_wp2
    refine bodyPost_ret (by simp [results, Tryd.results238, go_sem, *]; try rfl) rfl ?_
    exact ⟨rfl, by (repeat' (first | (with_reducible exact Below.refl _ _) | (with_reducible refine Below.setCell ?_ ?_ _) | (with_reducible refine below_drewN' ?_ _) | (with_reducible refine below_drew' ?_) | (with_reducible refine Below.alloc ?_ ?_ _) | (with_reducible assumption) | go_size))⟩
theorem ends_lits (a b c d : Int) (ha : Ord a) (hb : Ord b) (hc : Ord c) (hd : Ord d) :
    Tryd.prog.keyLits 8 164 (Value.agg #[.int .i64 a, .int .i64 b, .int .i64 c, .int .i64 d]).cells.toList = some [.int .i64 a, .int .i64 b, .int .i64 c, .int .i64 d] := by
  rcases ha with rfl | rfl | rfl <;> rcases hb with rfl | rfl | rfl <;> rcases hc with rfl | rfl | rfl <;> rcases hd with rfl | rfl | rfl <;> kernel_rfl
theorem wf_ord {a : Int} (h : Ord a) : (Lit.int .i64 a).wf = true := by rcases h with rfl | rfl | rfl <;> decide +kernel
theorem tp_ord {a : Int} (h : Ord a) : Ord (tp a) := by rcases h with rfl | rfl | rfl <;> (unfold Ord; decide +kernel)
theorem run_ends {a b c d a' b' c' d' : Int} (ha : Ord a) (hb : Ord b) (hc : Ord c) (hd : Ord d) (ha' : Ord a') (hb' : Ord b') (hc' : Ord c') (hd' : Ord d') (w : World) :
    (Op.equalIn 10000 164 (.agg #[.int .i64 a, .int .i64 b, .int .i64 c, .int .i64 d]) (.agg #[.int .i64 a', .int .i64 b', .int .i64 c', .int .i64 d'])).run Tryd.prog w = .ok (decide (a = a') && decide (b = b') && decide (c = c') && decide (d = d')) w := by
  obtain ⟨r, hr, hi⟩ := run_equalIn_deep (P := Tryd.prog) 9990 10 164 (by kernel_rfl) w 8 8 (.agg #[.int .i64 a, .int .i64 b, .int .i64 c, .int .i64 d]) (.agg #[.int .i64 a', .int .i64 b', .int .i64 c', .int .i64 d'])
    [.int .i64 a, .int .i64 b, .int .i64 c, .int .i64 d] [.int .i64 a', .int .i64 b', .int .i64 c', .int .i64 d'] (by kernel_rfl) (by kernel_rfl) (ends_lits a b c d ha hb hc hd) (ends_lits a' b' c' d' ha' hb' hc' hd')
  have e : r = (decide (a = a') && decide (b = b') && decide (c = c') && decide (d = d')) := by
    rw [Bool.eq_iff_iff, hi]
    simp [and_assoc]
  rw [← e]
  exact hr
set_option maxHeartbeats 1000000 in
set_option maxRecDepth 100000 in
theorem isTurnOf_any (b c : Nat) (hb : b < 13) (hc : c < 13) (w : World) (hT : TB w) :
    Calls Tryd.prog 217 #[.int .i64 b, .int .i64 c] w fun e w' => e = .returned (.bool (pT b c)) ∧ Below w.heap.size w w' := by
  have HP : Hid (pT b c = (decide (ord (zf b) 1 = tp (ord (zf c) 1)) && decide (ord (zf b) 3 = tp (ord (zt c) 1)) && decide (ord (zt b) 1 = tp (ord (zf c) 3)) && decide (ord (zt b) 3 = tp (ord (zt c) 3)))) := hid rfl
  have q0 := ord_Ord (zf c) 1
  have q1 := ord_Ord (zf c) 3
  have q2 := ord_Ord (zt c) 1
  have q3 := ord_Ord (zt c) 3
  have p0 := ord_Ord (zf b) 1
  have p1 := ord_Ord (zf b) 3
  have p2 := ord_Ord (zt b) 1
  have p3 := ord_Ord (zt b) 3
  have E1 := ends_any b hb w hT
  have E2 : ∀ w', Below w.heap.size w w' → _ := fun w' h => ends_any c hc w' (hT.below h)
  have hT' := hid hT
  clear hT
  generalize ord (zf c) 1 = c0 at *
  generalize ord (zf c) 3 = c1 at *
  generalize ord (zt c) 1 = c2 at *
  generalize ord (zt c) 3 = c3 at *
  generalize ord (zf b) 1 = b0 at *
  generalize ord (zf b) 3 = b1 at *
  generalize ord (zt b) 1 = b2 at *
  generalize ord (zt b) 3 = b3 at *
  have H1 := hid E1
  have H2 := hid E2
  clear E1 E2
  have HS := AllLt.start w; go_enter Tryd.func217, Tryd.ntmps217
  go_wp2_with fail
  refine H1.out.mono ?_
  rintro e w1 ⟨rfl, hb1⟩
  go_wp2_with fail
  refine (H2.out w1 hb1).mono ?_
  rintro e w2 ⟨rfl, hb2⟩
  go_wp2_with fail
  (with_reducible refine (eturned_any c0 c1 c2 c3 _ q0 q1 q2 q3).mono ?_)
  rintro e w3 ⟨rfl, hb3⟩
  have HB := hid ((hb1.trans (hb2.mono hb1.size)).trans (hb3.mono (Nat.le_trans hb1.size hb2.size)))
  clear hb1 hb2 hb3
  have hrun := run_ends p0 p1 p2 p3 (tp_ord q0) (tp_ord q2) (tp_ord q1) (tp_ord q3)
  go_wp2
  go_ret
  exact ⟨ret_bool (by rw [HP.out]), HB.out⟩
end
section
open Go.RowKit
set_option linter.unusedVariables false
set_option linter.unusedSimpArgs false
set_option maxHeartbeats 1000000 in
theorem where_turned (b : Nat) (hbb : b < 13) (w : World) (hT : TB w) :
    Calls Tryd.prog 216 #[.func (.func 217) #[.int .i64 b] #[]] w fun e w' => e = .returned (.tuple #[.int .i64 (firstF (pT b) 0 13).1, .bool (firstF (pT b) 0 13).2]) ∧ Below w.heap.size w w' := by
  have HT := hid hT
  clear hT
  have HS := AllLt.start w; go_enter Tryd.func216, Tryd.ntmps216
  go_wp2
  go_loopw [5] (fun v wr => ∃ k : Nat, k ≤ 13 ∧ v = .int .i64 k ∧ Hid (firstF (pT b) k (13 - k) = firstF (pT b) 0 13) ∧ Hid (Below w.heap.size w wr)) (fun v _ => 13 - (intOf v).toNat)
  case atStart => exact ⟨0, by omega, rfl, hid rfl, hid (Below.refl _ _)⟩
  case round =>
    obtain ⟨k, hk, rfl, HF, HB⟩ := hrel
    clear HS
    by_cases h13 : k < 13
    · obtain ⟨n, hn⟩ : ∃ n, 13 - k = n + 1 := ⟨12 - k, by omega⟩
      have hdi : decide ((k : Int) < 13) = true := by simp; omega
      cases hq : (pT b) k
      · have HF2 := hid (show firstF (pT b) (k + 1) (13 - (k + 1)) = firstF (pT b) 0 13 by rw [← HF.out, hn, firstF_miss hq]; congr 1; omega)
        have HQ := hid hq
        clear hn hq HF
        go_wp2_with (go_at_call 217; (with_reducible refine (isTurnOf_any b k hbb h13 _ (HT.out.below HB.out)).mono ?_); rintro e w' ⟨rfl, hb⟩; rw [HQ.out])
        go_roundw
        case rel => exact ⟨k + 1, by omega, by go_num, HF2, hid (HB.out.trans (hb.mono HB.out.size))⟩
        case measure => simp [intOf]; omega
      · have HF2 := hid (show firstF (pT b) 0 13 = ((k : Int), true) by rw [← HF.out, hn, firstF_hit hq])
        have HQ := hid hq
        clear hn hq HF
        go_wp2_with (go_at_call 217; (with_reducible refine (isTurnOf_any b k hbb h13 _ (HT.out.below HB.out)).mono ?_); rintro e w' ⟨rfl, hb⟩; rw [HQ.out])
        go_ret2
        exact ⟨by rw [HF2.out]; rfl, HB.out.trans (hb.mono HB.out.size)⟩
    · obtain rfl : k = 13 := by omega
      have hdi : decide (((13 : Nat) : Int) < 13) = false := by simp
      go_wp2
      go_ret2
      exact ⟨by rw [← HF.out]; rfl, HB.out⟩
theorem bturned_any (b : Nat) (hb : b < 13) (w : World) (hT : TB w) :
    Calls Tryd.prog 201 #[.int .i64 b] w fun e w' => e = .returned (.int .i64 ((12 - b : Nat) : Int)) ∧ Below w.heap.size w w' := by
  have HT := hid hT
  clear hT
  have HR := hid (pT_find hb)
  have HW := hid (where_turned b hb)
  generalize ((12 - b : Nat) : Int) = r at *
  clear hb
  have HS := AllLt.start w; go_enter Tryd.func201, Tryd.ntmps201
  go_wp2_with fail
  (with_reducible refine (HW.out _ HT.out).mono ?_)
  rintro e w' ⟨rfl, hb⟩
  simp only [HR.out]
  go_wp2
  go_ret
  exact ⟨rfl, hb⟩
end
end Go.Proofs.YtmdgkhebefnfeaaDoor.C
