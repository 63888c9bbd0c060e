/- Chapter 4: the exact laws of convex hulls, convex and nearly convex relations, and dimensions. -/
import Derived.Test.YtnhpjjbblegnaabDoorHul
import Derived.Test.YtnhpjjbblegnaabDoorHulS
import Derived.Test.YtnhpjjbblegnaabDoorLsh
namespace Go.Proofs.YtnhpjjbblegnaabDoor.C
open Go.RowKit
set_option linter.unusedVariables false
set_option linter.unusedSimpArgs false
theorem iConvexHull_any (r : Int) (w : World) (hT : TB w) :
    Calls Tryd.prog 14 #[.int .i64 r] w fun e w' => e = .returned (.int .i64 (hulI r)) ∧ Below w.heap.size w w' := by
  have HT := hid hT
  clear hT
  rcases rv_cases r with h | ⟨n, hn, rfl⟩
  · have H := hid h
    clear h
    have HS := AllLt.start w; go_enter Tryd.func14, Tryd.ntmps14
    go_wp2_with (first | (go_at_call 24; (with_reducible refine (iRelValid_any r _).mono ?_); rintro e w' ⟨rfl, rfl⟩; rw [H.out]))
    go_ret
    exact ⟨ret_int (hulI_off H.out).symm, Below.refl _ _⟩
  · have H := hid (rv_nat n hn)
    have HS := AllLt.start w; go_enter Tryd.func14, Tryd.ntmps14
    go_wp2_with (first | (go_at_call 24; (with_reducible refine (iRelValid_any _ _).mono ?_); rintro e w' ⟨rfl, rfl⟩; rw [H.out]) | (go_at_call 73; (with_reducible refine (hull_any n hn _ HT.out).mono ?_); rintro e w' ⟨rfl, hb⟩))
    go_ret
    exact ⟨ret_int (hulI_on hn).symm, hb⟩
theorem isConvex_any (n : Nat) (hn : n < 8192) (w : World) (hT : TB w) :
    Calls Tryd.prog 74 #[.int .i64 n] w fun e w' => e = .returned (.bool (decide (((hull n : Nat) : Int) = n))) ∧ Below w.heap.size w w' := by
  have HT := hid hT
  clear hT
  have HS := AllLt.start w; go_enter Tryd.func74, Tryd.ntmps74
  go_wp2_with (first | (go_at_call 73; (with_reducible refine (hull_any n hn _ HT.out).mono ?_); rintro e w' ⟨rfl, hb⟩))
  go_ret
  exact ⟨ret_bool (by rw [Bool.eq_iff_iff]; simp), hb⟩
theorem iIsConvex_any (r : Int) (w : World) (hT : TB w) :
    Calls Tryd.prog 15 #[.int .i64 r] w fun e w' => e = .returned (.bool (cvB r)) ∧ Below w.heap.size w w' := by
  have HT := hid hT
  clear hT
  rcases rv_cases r with h | ⟨n, hn, rfl⟩
  · have H := hid h
    clear h
    have HS := AllLt.start w; go_enter Tryd.func15, Tryd.ntmps15
    go_wp2_with (first | (go_at_call 24; (with_reducible refine (iRelValid_any r _).mono ?_); rintro e w' ⟨rfl, rfl⟩; rw [H.out]))
    go_ret
    exact ⟨ret_bool (cvB_off H.out).symm, Below.refl _ _⟩
  · have H := hid (rv_nat n hn)
    have HS := AllLt.start w; go_enter Tryd.func15, Tryd.ntmps15
    go_wp2_with (first | (go_at_call 24; (with_reducible refine (iRelValid_any _ _).mono ?_); rintro e w' ⟨rfl, rfl⟩; rw [H.out]) | (go_at_call 74; (with_reducible refine (isConvex_any n hn _ HT.out).mono ?_); rintro e w' ⟨rfl, hb⟩))
    go_ret
    exact ⟨ret_bool (cvB_on hn).symm, hb⟩
theorem iIsPreconvex_any (r : Int) (w : World) (hT : TB w) :
    Calls Tryd.prog 22 #[.int .i64 r] w fun e w' => e = .returned (.bool (pcB r)) ∧ Below w.heap.size w w' := by
  have HT := hid hT
  clear hT
  rcases rv_cases r with h | ⟨n, hn, rfl⟩
  · have H := hid h
    clear h
    have HS := AllLt.start w; go_enter Tryd.func22, Tryd.ntmps22
    go_wp2_with (first | (go_at_call 24; (with_reducible refine (iRelValid_any r _).mono ?_); rintro e w' ⟨rfl, rfl⟩; rw [H.out]))
    go_ret
    exact ⟨ret_bool (pcB_off H.out).symm, Below.refl _ _⟩
  · have H := hid (rv_nat n hn)
    have hl := closN_lt n
    have HP := hid (pcB_on hn)
    generalize hc : closN n = c at *
    have HC := hid (closure_any n hn)
    rw [hc] at HC
    clear hc
    have HS := AllLt.start w; go_enter Tryd.func22, Tryd.ntmps22
    go_wp2_with (first | (go_at_call 24; (with_reducible refine (iRelValid_any _ _).mono ?_); rintro e w' ⟨rfl, rfl⟩; rw [H.out]) | (go_at_call 79; (with_reducible refine (HC.out _ HT.out).mono ?_); rintro e w1 ⟨rfl, hb1⟩) | (go_at_call 74; (with_reducible refine (isConvex_any c hl _ (HT.out.below hb1)).mono ?_); rintro e w2 ⟨rfl, hb2⟩))
    go_ret
    exact ⟨ret_bool HP.out.symm, hb1.trans (hb2.mono hb1.size)⟩
theorem sConvexHull_any (r : Int) (w : World) :
    Calls Tryd.prog 16 #[.int .i64 r] w fun e w' => e = .returned (.int .i64 (hulI r)) ∧ Below w.heap.size w w' := by
  rcases rv_cases r with h | ⟨n, hn, rfl⟩
  · have H := hid h
    clear h
    have HS := AllLt.start w; go_enter Tryd.func16, Tryd.ntmps16
    go_wp2_with (first | (go_at_call 62; (with_reducible refine (sRelValid_any r _).mono ?_); rintro e w' ⟨rfl, rfl⟩; rw [H.out]))
    go_ret
    exact ⟨ret_int (hulI_off H.out).symm, Below.refl _ _⟩
  · have H := hid (rv_nat n hn)
    by_cases hz : n = 0
    · have HZ : Hid (hulI 0 = 0) := hid (by have := hulI_on (n := 0) (by decide); rw [hull_zero] at this; exact this)
      rw [hz]
      have H0 : Hid (rv ((0 : Nat) : Int) = true) := hid rfl
      clear hz hn H
      show Calls Tryd.prog 16 #[.int .i64 0] w fun e w' => e = .returned (.int .i64 (hulI 0)) ∧ Below w.heap.size w w'
      rw [HZ.out]
      have H1 : Hid (rv 0 = true) := H0
      have HS := AllLt.start w; go_enter Tryd.func16, Tryd.ntmps16
      go_wp2_with (first | (go_at_call 62; (with_reducible refine (sRelValid_any 0 _).mono ?_); rintro e w' ⟨rfl, rfl⟩; rw [H1.out]))
      go_ret
      exact ⟨rfl, Below.refl _ _⟩
    · have hb0 : ((n : Int) == 0) = false := by rw [beq_eq_false_iff_ne]; omega
      have HS := AllLt.start w; go_enter Tryd.func16, Tryd.ntmps16
      go_wp2_with (first | (go_at_call 62; (with_reducible refine (sRelValid_any _ _).mono ?_); rintro e w' ⟨rfl, rfl⟩; rw [H.out]) | (go_at_call 75; (with_reducible refine (l4Hull_any n hn _).mono ?_); rintro e w' ⟨rfl, hb⟩))
      go_ret
      exact ⟨ret_int (hulI_on hn).symm, hb⟩
theorem sIsConvex_any (r : Int) (w : World) :
    Calls Tryd.prog 17 #[.int .i64 r] w fun e w' => e = .returned (.bool (cvB r)) ∧ Below w.heap.size w w' := by
  rcases rv_cases r with h | ⟨n, hn, rfl⟩
  · have H := hid h
    clear h
    have HS := AllLt.start w; go_enter Tryd.func17, Tryd.ntmps17
    go_wp2_with (first | (go_at_call 62; (with_reducible refine (sRelValid_any r _).mono ?_); rintro e w' ⟨rfl, rfl⟩; rw [H.out]))
    go_ret
    exact ⟨ret_bool (cvB_off H.out).symm, Below.refl _ _⟩
  · have H := hid (rv_nat n hn)
    have HS := AllLt.start w; go_enter Tryd.func17, Tryd.ntmps17
    go_wp2_with (first | (go_at_call 62; (with_reducible refine (sRelValid_any _ _).mono ?_); rintro e w' ⟨rfl, rfl⟩; rw [H.out]) | (go_at_call 16; (with_reducible refine (sConvexHull_any (n : Int) _).mono ?_); rintro e w' ⟨rfl, hb⟩; rw [hulI_on hn]))
    go_ret
    exact ⟨ret_bool (by rw [cvB_on hn, Bool.eq_iff_iff]; simp), hb⟩
theorem sIsPreconvex_any (r : Int) (w : World) :
    Calls Tryd.prog 23 #[.int .i64 r] w fun e w' => e = .returned (.bool (pcB r)) ∧ Below w.heap.size w w' := by
  rcases rv_cases r with h | ⟨n, hn, rfl⟩
  · have H := hid h
    clear h
    have HS := AllLt.start w; go_enter Tryd.func23, Tryd.ntmps23
    go_wp2_with (first | (go_at_call 62; (with_reducible refine (sRelValid_any r _).mono ?_); rintro e w' ⟨rfl, rfl⟩; rw [H.out]))
    go_ret
    exact ⟨ret_bool (pcB_off H.out).symm, Below.refl _ _⟩
  · have H := hid (rv_nat n hn)
    have hl := closN_lt n
    have HP := hid (pcB_on hn)
    have HC := hid (l4Closure_any n hn)
    have HV := hid (fun h => cvB_on (n := closN n) h)
    generalize closN n = c at *
    have HS := AllLt.start w; go_enter Tryd.func23, Tryd.ntmps23
    go_wp2_with (first | (go_at_call 62; (with_reducible refine (sRelValid_any _ _).mono ?_); rintro e w' ⟨rfl, rfl⟩; rw [H.out]) | (go_at_call 80; (with_reducible refine (HC.out _).mono ?_); rintro e w1 ⟨rfl, hb1⟩) | (go_at_call 17; (with_reducible refine (sIsConvex_any (c : Int) _).mono ?_); rintro e w2 ⟨rfl, hb2⟩))
    go_ret
    exact ⟨ret_bool (by rw [HP.out, HV.out hl]), hb1.trans (hb2.mono hb1.size)⟩
set_option maxHeartbeats 1000000 in
theorem dimension_any (k : Nat) (hk : k < 13) (w : World) (hT : TB w) :
    Calls Tryd.prog 83 #[.int .i64 k] w fun e w' => e = .returned (.int .i64 (dimN k)) ∧ ∃ n, w' = w.drewN n := by
  have HT := hid hT
  clear hT
  have HZ := hid (zones_any k hk)
  have HD : Hid (dimN k = evZ (zf k) + evZ (zt k)) := hid rfl
  have ev : ∀ (z : Int) (b : Bool), (decide (z = 1) || decide (z = 3)) = b → evZ z = if b then 0 else 1 := fun z b h => by
    subst h
    unfold evZ
    by_cases h : z = 1 ∨ z = 3
    · rcases h with rfl | rfl <;> rfl
    · rw [if_neg h]
      have h1 : ¬ z = 1 := fun e => h (.inl e)
      have h2 : ¬ z = 3 := fun e => h (.inr e)
      simp [h1, h2]
  generalize zf k = x at *
  generalize zt k = y at *
  have i0 : ∀ w : World, (Instr.index 114 (.agg #[.int .i64 x, .int .i64 y]) (.int .i64 0)).run Tryd.prog w = .ok (.int .i64 x) w := fun w => by kernel_rfl
  have i1 : ∀ w : World, (Instr.index 114 (.agg #[.int .i64 x, .int .i64 y]) (.int .i64 1)).run Tryd.prog w = .ok (.int .i64 y) w := fun w => by kernel_rfl
  cases h1 : (decide (x = 1) || decide (x = 3)) <;> cases h2 : (decide (y = 1) || decide (y = 3))
  all_goals
    have H1 := hid h1
    have H2 := hid h2
    have HE := hid (show dimN k = _ by rw [HD.out, ev _ _ h1, ev _ _ h2])
    clear h1 h2 HD
    have HS := AllLt.start w; go_enter Tryd.func83, Tryd.ntmps83
    go_wp2_with (first | (go_at_call 100; (with_reducible refine (HZ.out _ HT.out).mono ?_); rintro e w' ⟨rfl, n, rfl⟩))
    refine wp_loop_rounds 3 ?_
    iterate 3
      rw [rounds_succ]
      go_wp2_with (first | (go_at_call 137; (with_reducible refine (isEnd_any x _).mono ?_); rintro e w' ⟨rfl, rfl⟩; rw [H1.out]) | (go_at_call 137; (with_reducible refine (isEnd_any y _).mono ?_); rintro e w' ⟨rfl, rfl⟩; rw [H2.out]))
    go_ret
    exact ⟨ret_int HE.out.symm, by exact ⟨_, rfl⟩⟩
theorem iDimensionOf_any (s : ByteArray) (w : World) (hT : TB w) :
    Calls Tryd.prog 26 #[.string s] w fun e w' => e = .returned (.int .i64 (dimI (lixI s))) ∧ Below w.heap.size w w' := by
  have HT := hid hT
  clear hT
  rcases lix_cases s with ⟨k, hk, he, hr⟩ | ⟨he, hr⟩
  all_goals
    clear he
    have HR := hid hr
    clear hr
    have HS := AllLt.start w; go_enter Tryd.func26, Tryd.ntmps26
    go_wp2_with fail
    (with_reducible refine (basicOfLetter_any s _ HT.out).mono ?_)
    rintro e w1 ⟨rfl, hb⟩
    simp only [HR.out]
    have HB := hid hb
    clear hb
  · go_wp2_with (first | (go_at_call 83; (with_reducible refine (dimension_any k hk _ (HT.out.below HB.out)).mono ?_); rintro e w' ⟨rfl, n, rfl⟩))
    go_ret
    exact ⟨by rw [lixI_hit HR.out, dimI_nat]; rfl, by exact HB.out.trans (below_drewN _ _ _)⟩
  · go_wp2
    go_ret
    exact ⟨by rw [lixI_miss HR.out]; rfl, HB.out⟩
end Go.Proofs.YtnhpjjbblegnaabDoor.C
