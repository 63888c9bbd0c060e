/- Walks over chapter 1's sets of orders, for the program (over its table of the three orders) and for the model. Walks over the orders of the ends of two intervals in a basic relation, turned and mirrored ones. Walks over turned and mirrored basic relations. -/
import Derived.Test.YtnogdjmciekieabDoorTwo
import Derived.Test.YtnogdjmciekieabDoorTab
import Derived.Deep.RegionWith
import Derived.Deep.RegionHeld3
import Derived.DeepKeys
namespace Go.Proofs.YtnogdjmciekieabDoor.C
section
open Go.RowKit
set_option linter.unusedVariables false

theorem oturned_any (o : Int) (w : World) (ho : Ord o) :
    Calls Tryd.prog 139 #[.int .i64 o] w fun e w' => e = .returned (.int .i64 (tp o)) ∧ w = w' := by
  rcases ho with rfl | rfl | rfl
  all_goals
    go_enter Tryd.func139, Tryd.ntmps139
    go_wp2
    go_ret
    exact ⟨ret_int (by decide +kernel), rfl⟩
end
section
open Go.RowKit
set_option linter.unusedVariables false
set_option linter.unusedSimpArgs false
theorem orderTo_any (x y : Int) (w : World) :
    Calls Tryd.prog 138 #[.int .i64 x, .int .i64 y] w fun e w' => e = .returned (.int .i64 (ord x y)) ∧ w = w' := by
  have HS := AllLt.start w; go_enter Tryd.func138, Tryd.ntmps138
  go_wp2_with (first | (go_at_call 123; (with_reducible refine (compareNumbers_any _ _ _).mono ?_); rintro e w' ⟨rfl, rfl⟩))
  go_ret
  exact ⟨rfl, rfl⟩
theorem ends_any (k : Nat) (hk : k < 13) (w : World) (hT : TB w) :
    Calls Tryd.prog 129 #[.int .i64 k] w fun e w' => e = .returned (.agg #[.int .i64 (ord (zf k) 1), .int .i64 (ord (zf k) 3), .int .i64 (ord (zt k) 1), .int .i64 (ord (zt k) 3)]) ∧ Below w.heap.size w w' := by
  have HT := hid hT
  clear hT
  have hB1 : Hid (∀ o, TB (w.alloc o)) := hid fun o => HT.out.below ((Below.refl _ _).alloc (Nat.le_refl _) _)
  have HS := AllLt.start w; go_enter Tryd.func129, Tryd.ntmps129
  go_wp2_with (first | (go_at_call 117; (with_reducible refine (zones_any k hk _ (hB1.out _)).mono ?_); rintro e w' ⟨rfl, n, rfl⟩) | (go_at_call 138; (with_reducible refine (orderTo_any _ _ _).mono ?_); rintro e w' ⟨rfl, rfl⟩))
  refine bodyPost_ret (by simp [results, Tryd.results129, go_sem, *]; try rfl) rfl ?_
  exact ⟨rfl, by (repeat' (first | (with_reducible exact Below.refl _ _) | (with_reducible refine Below.setCell ?_ ?_ _) | (with_reducible refine below_drewN' ?_ _) | (with_reducible refine below_drew' ?_) | (with_reducible refine Below.alloc ?_ ?_ _) | (with_reducible assumption) | go_size))⟩
set_option maxHeartbeats 1000000 in
theorem eturned_any (a b c d : Int) (w : World) (ha : Ord a) (hb : Ord b) (hc : Ord c) (hd : Ord d) :
    Calls Tryd.prog 130 #[.agg #[.int .i64 a, .int .i64 b, .int .i64 c, .int .i64 d]] w fun e w' => e = .returned (.agg #[.int .i64 (tp a), .int .i64 (tp c), .int .i64 (tp b), .int .i64 (tp d)]) ∧ Below w.heap.size w w' := by
  have HS := AllLt.start w; go_enter Tryd.func130, Tryd.ntmps130
  go_wp2
  go_region_held3 (fun w' => w'.cell? ⟨w.heap.size, 0, none⟩ = some (.int .i64 a) ∧ w'.cell? ⟨w.heap.size, 1, none⟩ = some (.int .i64 b) ∧ w'.cell? ⟨w.heap.size, 2, none⟩ = some (.int .i64 c) ∧ w'.cell? ⟨w.heap.size, 3, none⟩ = some (.int .i64 d)) (go_keep)
    (first | (go_at_call 139; (with_reducible refine (oturned_any a _ ha).mono ?_); rintro e w' ⟨rfl, rfl⟩) | (go_at_call 139; (with_reducible refine (oturned_any b _ hb).mono ?_); rintro e w' ⟨rfl, rfl⟩) | (go_at_call 139; (with_reducible refine (oturned_any c _ hc).mono ?_); rintro e w' ⟨rfl, rfl⟩) | (go_at_call 139; (with_reducible refine (oturned_any d _ hd).mono ?_); rintro e w' ⟨rfl, rfl⟩))
  all_goals
    go_wp2
    refine bodyPost_ret (by simp [results, Tryd.results130, go_sem, *]; try rfl) rfl ?_
    exact ⟨rfl, by (repeat' (first | (with_reducible exact Below.refl _ _) | (with_reducible refine Below.setCell ?_ ?_ _) | (with_reducible refine below_drewN' ?_ _) | (with_reducible refine below_drew' ?_) | (with_reducible refine Below.alloc ?_ ?_ _) | (with_reducible assumption) | go_size))⟩
theorem ends_lits (a b c d : Int) (ha : Ord a) (hb : Ord b) (hc : Ord c) (hd : Ord d) :
    Tryd.prog.keyLits 8 172 (Value.agg #[.int .i64 a, .int .i64 b, .int .i64 c, .int .i64 d]).cells.toList = some [.int .i64 a, .int .i64 b, .int .i64 c, .int .i64 d] := by
  rcases ha with rfl | rfl | rfl <;> rcases hb with rfl | rfl | rfl <;> rcases hc with rfl | rfl | rfl <;> rcases hd with rfl | rfl | rfl <;> kernel_rfl
theorem wf_ord {a : Int} (h : Ord a) : (Lit.int .i64 a).wf = true := by rcases h with rfl | rfl | rfl <;> decide +kernel
theorem tp_ord {a : Int} (h : Ord a) : Ord (tp a) := by rcases h with rfl | rfl | rfl <;> (unfold Ord; decide +kernel)
theorem run_ends {a b c d a' b' c' d' : Int} (ha : Ord a) (hb : Ord b) (hc : Ord c) (hd : Ord d) (ha' : Ord a') (hb' : Ord b') (hc' : Ord c') (hd' : Ord d') (w : World) :
    (Op.equalIn 10000 172 (.agg #[.int .i64 a, .int .i64 b, .int .i64 c, .int .i64 d]) (.agg #[.int .i64 a', .int .i64 b', .int .i64 c', .int .i64 d'])).run Tryd.prog w = .ok (decide (a = a') && decide (b = b') && decide (c = c') && decide (d = d')) w := by
  obtain ⟨r, hr, hi⟩ := run_equalIn_deep (P := Tryd.prog) 9990 10 172 (by kernel_rfl) w 8 8 (.agg #[.int .i64 a, .int .i64 b, .int .i64 c, .int .i64 d]) (.agg #[.int .i64 a', .int .i64 b', .int .i64 c', .int .i64 d'])
    [.int .i64 a, .int .i64 b, .int .i64 c, .int .i64 d] [.int .i64 a', .int .i64 b', .int .i64 c', .int .i64 d'] (by kernel_rfl) (by kernel_rfl) (ends_lits a b c d ha hb hc hd) (ends_lits a' b' c' d' ha' hb' hc' hd')
  have e : r = (decide (a = a') && decide (b = b') && decide (c = c') && decide (d = d')) := by
    rw [Bool.eq_iff_iff, hi]
    simp [and_assoc]
  rw [← e]
  exact hr
set_option maxHeartbeats 1000000 in
set_option maxRecDepth 100000 in
theorem isTurnOf_any (b c : Nat) (hb : b < 13) (hc : c < 13) (w : World) (hT : TB w) :
    Calls Tryd.prog 112 #[.int .i64 b, .int .i64 c] w fun e w' => e = .returned (.bool (pT b c)) ∧ Below w.heap.size w w' := by
  have HP : Hid (pT b c = (decide (ord (zf b) 1 = tp (ord (zf c) 1)) && decide (ord (zf b) 3 = tp (ord (zt c) 1)) && decide (ord (zt b) 1 = tp (ord (zf c) 3)) && decide (ord (zt b) 3 = tp (ord (zt c) 3)))) := hid rfl
  have q0 := ord_Ord (zf c) 1
  have q1 := ord_Ord (zf c) 3
  have q2 := ord_Ord (zt c) 1
  have q3 := ord_Ord (zt c) 3
  have p0 := ord_Ord (zf b) 1
  have p1 := ord_Ord (zf b) 3
  have p2 := ord_Ord (zt b) 1
  have p3 := ord_Ord (zt b) 3
  have E1 := ends_any b hb w hT
  have E2 : ∀ w', Below w.heap.size w w' → _ := fun w' h => ends_any c hc w' (hT.below h)
  have hT' := hid hT
  clear hT
  generalize ord (zf c) 1 = c0 at *
  generalize ord (zf c) 3 = c1 at *
  generalize ord (zt c) 1 = c2 at *
  generalize ord (zt c) 3 = c3 at *
  generalize ord (zf b) 1 = b0 at *
  generalize ord (zf b) 3 = b1 at *
  generalize ord (zt b) 1 = b2 at *
  generalize ord (zt b) 3 = b3 at *
  have H1 := hid E1
  have H2 := hid E2
  clear E1 E2
  have HS := AllLt.start w; go_enter Tryd.func112, Tryd.ntmps112
  go_wp2_with fail
  refine H1.out.mono ?_
  rintro e w1 ⟨rfl, hb1⟩
  go_wp2_with fail
  refine (H2.out w1 hb1).mono ?_
  rintro e w2 ⟨rfl, hb2⟩
  go_wp2_with fail
  (with_reducible refine (eturned_any c0 c1 c2 c3 _ q0 q1 q2 q3).mono ?_)
  rintro e w3 ⟨rfl, hb3⟩
  have HB := hid ((hb1.trans (hb2.mono hb1.size)).trans (hb3.mono (Nat.le_trans hb1.size hb2.size)))
  clear hb1 hb2 hb3
  have hrun := run_ends p0 p1 p2 p3 (tp_ord q0) (tp_ord q2) (tp_ord q1) (tp_ord q3)
  go_wp2
  go_ret
  exact ⟨ret_bool (by rw [HP.out]), HB.out⟩
end
section
open Go.RowKit
set_option linter.unusedVariables false
set_option linter.unusedSimpArgs false
set_option maxHeartbeats 1000000 in
theorem where_turned (b : Nat) (hbb : b < 13) (w : World) (hT : TB w) :
    Calls Tryd.prog 105 #[.func (.func 112) #[.int .i64 b] #[]] w fun e w' => e = .returned (.tuple #[.int .i64 (firstF (pT b) 0 13).1, .bool (firstF (pT b) 0 13).2]) ∧ Below w.heap.size w w' := by
  have HT := hid hT
  clear hT
  have HS := AllLt.start w; go_enter Tryd.func105, Tryd.ntmps105
  go_wp2
  go_loopw [5] (fun v wr => ∃ k : Nat, k ≤ 13 ∧ v = .int .i64 k ∧ Hid (firstF (pT b) k (13 - k) = firstF (pT b) 0 13) ∧ Hid (Below w.heap.size w wr)) (fun v _ => 13 - (intOf v).toNat)
  case atStart => exact ⟨0, by omega, rfl, hid rfl, hid (Below.refl _ _)⟩
  case round =>
    obtain ⟨k, hk, rfl, HF, HB⟩ := hrel
    clear HS
    by_cases h13 : k < 13
    · obtain ⟨n, hn⟩ : ∃ n, 13 - k = n + 1 := ⟨12 - k, by omega⟩
      have hdi : decide ((k : Int) < 13) = true := by simp; omega
      cases hq : (pT b) k
      · have HF2 := hid (show firstF (pT b) (k + 1) (13 - (k + 1)) = firstF (pT b) 0 13 by rw [← HF.out, hn, firstF_miss hq]; congr 1; omega)
        have HQ := hid hq
        clear hn hq HF
        go_wp2_with (go_at_call 112; (with_reducible refine (isTurnOf_any b k hbb h13 _ (HT.out.below HB.out)).mono ?_); rintro e w' ⟨rfl, hb⟩; rw [HQ.out])
        go_roundw
        case rel => exact ⟨k + 1, by omega, by go_num, HF2, hid (HB.out.trans (hb.mono HB.out.size))⟩
        case measure => simp [intOf]; omega
      · have HF2 := hid (show firstF (pT b) 0 13 = ((k : Int), true) by rw [← HF.out, hn, firstF_hit hq])
        have HQ := hid hq
        clear hn hq HF
        go_wp2_with (go_at_call 112; (with_reducible refine (isTurnOf_any b k hbb h13 _ (HT.out.below HB.out)).mono ?_); rintro e w' ⟨rfl, hb⟩; rw [HQ.out])
        go_ret2
        exact ⟨by rw [HF2.out]; rfl, HB.out.trans (hb.mono HB.out.size)⟩
    · obtain rfl : k = 13 := by omega
      have hdi : decide (((13 : Nat) : Int) < 13) = false := by simp
      go_wp2
      go_ret2
      exact ⟨by rw [← HF.out]; rfl, HB.out⟩
theorem bturned_any (b : Nat) (hb : b < 13) (w : World) (hT : TB w) :
    Calls Tryd.prog 88 #[.int .i64 b] w fun e w' => e = .returned (.int .i64 ((12 - b : Nat) : Int)) ∧ Below w.heap.size w w' := by
  have HT := hid hT
  clear hT
  have HR := hid (pT_find hb)
  have HW := hid (where_turned b hb)
  generalize ((12 - b : Nat) : Int) = r at *
  clear hb
  have HS := AllLt.start w; go_enter Tryd.func88, Tryd.ntmps88
  go_wp2_with fail
  (with_reducible refine (HW.out _ HT.out).mono ?_)
  rintro e w' ⟨rfl, hb⟩
  simp only [HR.out]
  go_wp2
  go_ret
  exact ⟨rfl, hb⟩
end
end Go.Proofs.YtnogdjmciekieabDoor.C
