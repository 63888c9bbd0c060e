/- Chapter 4: the exact laws of convex hulls, convex and nearly convex relations, and dimensions. -/
import Derived.Test.YtlmmjdaipedjjaaDoorHul
import Derived.Test.YtlmmjdaipedjjaaDoorHulS
import Derived.Test.YtlmmjdaipedjjaaDoorLsh
namespace Go.Proofs.YtlmmjdaipedjjaaDoor.C
open Go.RowKit
set_option linter.unusedVariables false
set_option linter.unusedSimpArgs false
theorem isConvex_any (n : Nat) (hn : n < 8192) (w : World) (hT : TB w) :
    Calls Tryd.prog 93 #[.int .i64 n] w fun e w' => e = .returned (.bool (decide (((hull n : Nat) : Int) = n))) ∧ Below w.heap.size w w' := by
  have HT := hid hT
  clear hT
  have HS := AllLt.start w; go_enter Tryd.func93, Tryd.ntmps93
  go_wp2_with (first | (go_at_call 125; (with_reducible refine (hull_any n hn _ HT.out).mono ?_); rintro e w' ⟨rfl, hb⟩))
  go_ret
  exact ⟨ret_bool (by rw [Bool.eq_iff_iff]; simp), hb⟩
theorem iIsPreconvex_any (r : Int) (w : World) (hT : TB w) :
    Calls Tryd.prog 52 #[.int .i64 r] w fun e w' => e = .returned (.bool (pcB r)) ∧ Below w.heap.size w w' := by
  have HT := hid hT
  clear hT
  rcases rv_cases r with h | ⟨n, hn, rfl⟩
  · have H := hid h
    clear h
    have HS := AllLt.start w; go_enter Tryd.func52, Tryd.ntmps52
    go_wp2_with (first | (go_at_call 91; (with_reducible refine (iRelValid_any r _).mono ?_); rintro e w' ⟨rfl, rfl⟩; rw [H.out]))
    go_ret
    exact ⟨ret_bool (pcB_off H.out).symm, Below.refl _ _⟩
  · have H := hid (rv_nat n hn)
    have hl := closN_lt n
    have HP := hid (pcB_on hn)
    generalize hc : closN n = c at *
    have HC := hid (closure_any n hn)
    rw [hc] at HC
    clear hc
    have HS := AllLt.start w; go_enter Tryd.func52, Tryd.ntmps52
    go_wp2_with (first | (go_at_call 91; (with_reducible refine (iRelValid_any _ _).mono ?_); rintro e w' ⟨rfl, rfl⟩; rw [H.out]) | (go_at_call 92; (with_reducible refine (HC.out _ HT.out).mono ?_); rintro e w1 ⟨rfl, hb1⟩) | (go_at_call 93; (with_reducible refine (isConvex_any c hl _ (HT.out.below hb1)).mono ?_); rintro e w2 ⟨rfl, hb2⟩))
    go_ret
    exact ⟨ret_bool HP.out.symm, hb1.trans (hb2.mono hb1.size)⟩
theorem sConvexHull_any (r : Int) (w : World) :
    Calls Tryd.prog 119 #[.int .i64 r] w fun e w' => e = .returned (.int .i64 (hulI r)) ∧ Below w.heap.size w w' := by
  rcases rv_cases r with h | ⟨n, hn, rfl⟩
  · have H := hid h
    clear h
    have HS := AllLt.start w; go_enter Tryd.func119, Tryd.ntmps119
    go_wp2_with (first | (go_at_call 78; (with_reducible refine (sRelValid_any r _).mono ?_); rintro e w' ⟨rfl, rfl⟩; rw [H.out]))
    go_ret
    exact ⟨ret_int (hulI_off H.out).symm, Below.refl _ _⟩
  · have H := hid (rv_nat n hn)
    by_cases hz : n = 0
    · have HZ : Hid (hulI 0 = 0) := hid (by have := hulI_on (n := 0) (by decide); rw [hull_zero] at this; exact this)
      rw [hz]
      have H0 : Hid (rv ((0 : Nat) : Int) = true) := hid rfl
      clear hz hn H
      show Calls Tryd.prog 119 #[.int .i64 0] w fun e w' => e = .returned (.int .i64 (hulI 0)) ∧ Below w.heap.size w w'
      rw [HZ.out]
      have H1 : Hid (rv 0 = true) := H0
      have HS := AllLt.start w; go_enter Tryd.func119, Tryd.ntmps119
      go_wp2_with (first | (go_at_call 78; (with_reducible refine (sRelValid_any 0 _).mono ?_); rintro e w' ⟨rfl, rfl⟩; rw [H1.out]))
      go_ret
      exact ⟨rfl, Below.refl _ _⟩
    · have hb0 : ((n : Int) == 0) = false := by rw [beq_eq_false_iff_ne]; omega
      have HS := AllLt.start w; go_enter Tryd.func119, Tryd.ntmps119
      go_wp2_with (first | (go_at_call 78; (with_reducible refine (sRelValid_any _ _).mono ?_); rintro e w' ⟨rfl, rfl⟩; rw [H.out]) | (go_at_call 142; (with_reducible refine (l4Hull_any n hn _).mono ?_); rintro e w' ⟨rfl, hb⟩))
      go_ret
      exact ⟨ret_int (hulI_on hn).symm, hb⟩
theorem sIsConvex_any (r : Int) (w : World) :
    Calls Tryd.prog 89 #[.int .i64 r] w fun e w' => e = .returned (.bool (cvB r)) ∧ Below w.heap.size w w' := by
  rcases rv_cases r with h | ⟨n, hn, rfl⟩
  · have H := hid h
    clear h
    have HS := AllLt.start w; go_enter Tryd.func89, Tryd.ntmps89
    go_wp2_with (first | (go_at_call 78; (with_reducible refine (sRelValid_any r _).mono ?_); rintro e w' ⟨rfl, rfl⟩; rw [H.out]))
    go_ret
    exact ⟨ret_bool (cvB_off H.out).symm, Below.refl _ _⟩
  · have H := hid (rv_nat n hn)
    have HS := AllLt.start w; go_enter Tryd.func89, Tryd.ntmps89
    go_wp2_with (first | (go_at_call 78; (with_reducible refine (sRelValid_any _ _).mono ?_); rintro e w' ⟨rfl, rfl⟩; rw [H.out]) | (go_at_call 119; (with_reducible refine (sConvexHull_any (n : Int) _).mono ?_); rintro e w' ⟨rfl, hb⟩; rw [hulI_on hn]))
    go_ret
    exact ⟨ret_bool (by rw [cvB_on hn, Bool.eq_iff_iff]; simp), hb⟩
theorem sIsPreconvex_any (r : Int) (w : World) :
    Calls Tryd.prog 50 #[.int .i64 r] w fun e w' => e = .returned (.bool (pcB r)) ∧ Below w.heap.size w w' := by
  rcases rv_cases r with h | ⟨n, hn, rfl⟩
  · have H := hid h
    clear h
    have HS := AllLt.start w; go_enter Tryd.func50, Tryd.ntmps50
    go_wp2_with (first | (go_at_call 78; (with_reducible refine (sRelValid_any r _).mono ?_); rintro e w' ⟨rfl, rfl⟩; rw [H.out]))
    go_ret
    exact ⟨ret_bool (pcB_off H.out).symm, Below.refl _ _⟩
  · have H := hid (rv_nat n hn)
    have hl := closN_lt n
    have HP := hid (pcB_on hn)
    have HC := hid (l4Closure_any n hn)
    have HV := hid (fun h => cvB_on (n := closN n) h)
    generalize closN n = c at *
    have HS := AllLt.start w; go_enter Tryd.func50, Tryd.ntmps50
    go_wp2_with (first | (go_at_call 78; (with_reducible refine (sRelValid_any _ _).mono ?_); rintro e w' ⟨rfl, rfl⟩; rw [H.out]) | (go_at_call 90; (with_reducible refine (HC.out _).mono ?_); rintro e w1 ⟨rfl, hb1⟩) | (go_at_call 89; (with_reducible refine (sIsConvex_any (c : Int) _).mono ?_); rintro e w2 ⟨rfl, hb2⟩))
    go_ret
    exact ⟨ret_bool (by rw [HP.out, HV.out hl]), hb1.trans (hb2.mono hb1.size)⟩
end Go.Proofs.YtlmmjdaipedjjaaDoor.C
