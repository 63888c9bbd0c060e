/- Sorting the ends of intervals: the order of a timeline of points, and insertion sort by it. -/
import Derived.Test.YtmdgkhebefnfeabIvs
import Derived.Test.YtmdgkhebefnfeabEndsX
import Derived.Test.YtmdgkhebefnfeabSrtQ
import Derived.BigQuiet
import Derived.Deep.RegionHeld3
import Derived.Deep.RegionWith
namespace Go.Proofs.Ytmdgkhebefnfeab.C
open Go.RowKit
set_option linter.unusedVariables false
set_option linter.unusedSimpArgs false
def cmz (x y : Int) : Int := if x < y then -1 else if x = y then 0 else 1
theorem cmz_neg {x y : Int} : decide (cmz x y < 0) = decide (x < y) := by
  unfold cmz; split
  · simp [*]
  · split <;> simp [*]
theorem cmz_zero {x y : Int} : (cmz x y == 0) = decide (x = y) := by
  unfold cmz; split
  · have : ¬ x = y := by omega
    simp [this]
  · split <;> simp [*]
theorem pOrder_any (x y : Int) (w : World) :
    Calls Try.prog 56 #[.int .i64 x, .int .i64 y] w fun e w' => e = .returned (.int .i64 (ord x y)) ∧ w = w' := by
  have HS := AllLt.start w; go_enter Try.func56, Try.ntmps56
  go_wp2_with (first | (go_at_call 72; (with_reducible refine (compareNumbers_any _ _ _).mono ?_); rintro e w' ⟨rfl, rfl⟩))
  go_ret
  exact ⟨rfl, rfl⟩
theorem isNaN_any (x : Int) (w : World) :
    Calls Try.prog 100 #[.int .i64 x] w fun e w' => e = .returned (.bool false) ∧ w = w' := by
  have HS := AllLt.start w; go_enter Try.func100, Try.ntmps100
  go_wp2
  go_ret
  exact ⟨by simp, rfl⟩
theorem cmpOrd_any (x y : Int) (w : World) :
    Calls Try.prog 86 #[.int .i64 x, .int .i64 y] w fun e w' => e = .returned (.int .i64 (cmz x y)) ∧ w = w' := by
  by_cases h1 : x < y
  · have hv : cmz x y = -1 := by unfold cmz; rw [if_pos h1]
    have HS := AllLt.start w; go_enter Try.func86, Try.ntmps86
    go_wp2_with (first | (go_at_call 100; (with_reducible refine (isNaN_any _ _).mono ?_); rintro e w' ⟨rfl, rfl⟩))
    go_ret
    exact ⟨ret_int hv.symm, rfl⟩
  · by_cases h2 : x = y
    · have hv : cmz x y = 0 := by unfold cmz; rw [if_neg h1, if_pos h2]
      have h3 : ¬ y < x := by omega
      have HS := AllLt.start w; go_enter Try.func86, Try.ntmps86
      go_wp2_with (first | (go_at_call 100; (with_reducible refine (isNaN_any _ _).mono ?_); rintro e w' ⟨rfl, rfl⟩))
      go_ret
      exact ⟨ret_int hv.symm, rfl⟩
    · have hv : cmz x y = 1 := by unfold cmz; rw [if_neg h1, if_neg h2]
      have h3 : y < x := by omega
      have HS := AllLt.start w; go_enter Try.func86, Try.ntmps86
      go_wp2_with (first | (go_at_call 100; (with_reducible refine (isNaN_any _ _).mono ?_); rintro e w' ⟨rfl, rfl⟩))
      go_ret
      exact ⟨ret_int hv.symm, rfl⟩
theorem cmz_ord (x y : Int) : cmz (ord x y) 2 = cmz x y := by
  rcases Int.lt_trichotomy x y with l | l | l
  · rw [ord_lt l]; unfold cmz; simp [l]
  · rw [ord_eq l]; unfold cmz; simp [l]
  · rw [ord_gt l]; unfold cmz
    rw [if_neg (by omega), if_neg (by omega), if_neg (by omega), if_neg (by omega)]
theorem pOrder_in (args : Array Value) (w : World) : (callFunc 56 args).run Try.prog w = .ok (.enter 56 args) w := by kernel_rfl
theorem tcmp_any (u v : Value) (x y : Int) (w : World) :
    Calls Try.prog 69 #[.agg #[u, v, .func (.func 56) #[] #[]], .int .i64 x, .int .i64 y] w fun e w' => e = .returned (.int .i64 (cmz x y)) ∧ Below w.heap.size w w' := by
  have hin := pOrder_in
  have HS := AllLt.start w; go_enter Try.func69, Try.ntmps69
  go_wp2_with fail
  (with_reducible refine (pOrder_any _ _ _).mono ?_)
  rintro e w2 ⟨rfl, rfl⟩
  go_wp2_with fail
  (with_reducible refine (cmpOrd_any _ _ _).mono ?_)
  rintro e w3 ⟨rfl, rfl⟩
  rw [cmz_ord]
  go_wp2
  go_ret
  exact ⟨rfl, by (repeat' (first | (with_reducible exact Below.refl _ _) | (with_reducible refine Below.setCell ?_ ?_ _) | (with_reducible refine below_drewN' ?_ _) | (with_reducible refine below_drew' ?_) | (with_reducible refine Below.alloc ?_ ?_ _) | (with_reducible assumption) | go_size))⟩
theorem tcmp_in (args : Array Value) (w : World) : (callFunc 69 args).run Try.prog w = .ok (.enter 69 args) w := by kernel_rfl
/-- Block b holds n numbers f; nothing else of the old world has turned. -/
structure Sb (b n : Nat) (f : Nat → Int) (w w' : World) : Prop where
  wr : Wr b w w'
  lt : b < w'.heap.size
  c : ∀ i, i < n → w'.cell? ⟨b, i, none⟩ = some (.int .i64 (f i))
  fr : ∀ i, i < n → w'.frozen? ⟨b, i, none⟩ = false
theorem Sb.below {b n : Nat} {f : Nat → Int} {w w1 w2 : World} (h : Sb b n f w w1) (hb : Below w1.heap.size w1 w2) : Sb b n f w w2 :=
  ⟨h.wr.trans (Wr.of_below hb), Nat.lt_of_lt_of_le h.lt hb.size, fun i hi => by rw [hb.cell (p := ⟨b, i, none⟩) h.lt]; exact h.c i hi, fun i hi => by rw [hb.frozen (p := ⟨b, i, none⟩) h.lt]; exact h.fr i hi⟩
theorem Sb.swap {b n j : Nat} {f : Nat → Int} {w w1 : World} (h : Sb b n f w w1) (h0 : 0 < j) (hj : j < n) (m : Nat) :
    Sb b n (swapF f j) w (((w1.drewN m).setCell ⟨b, j, none⟩ (.int .i64 (f (j - 1)))).setCell ⟨b, j - 1, none⟩ (.int .i64 (f j))) := by
  refine ⟨((h.wr.drewN m).trans (Wr.setCell _ _ _ _)).trans (Wr.setCell _ _ _ _), by simpa using h.lt, fun i hi => ?_, fun i hi => by simpa [go_sem] using h.fr i hi⟩
  have c1 := h.c i hi
  unfold swapF
  by_cases e : i = j
  · subst e
    have e1 : ¬ i - 1 = i := by omega
    simp [go_sem, e1, c1]
  · rw [if_neg e]
    have e' : ¬ j = i := fun h => e h.symm
    by_cases e2 : i = j - 1
    · subst e2
      simp [go_sem, e', c1]
    · have e3 : ¬ j - 1 = i := fun h => e2 h.symm
      rw [if_neg e2]
      simp [go_sem, e', e3, c1]
set_option maxHeartbeats 2000000 in
set_option maxRecDepth 100000 in
theorem insSort_any (u v : Value) (b cap n : Nat) (f : Nat → Int) (w : World) (hn : n ≤ 12) (h1 : n ≤ cap) (hS : Sb b n f w w) :
    Calls Try.prog 92 #[.slice (some ⟨b, 0, none⟩) n cap, .int .i64 0, .int .i64 n, .func (.func 69) #[.agg #[u, v, .func (.func 56) #[] #[]]] #[]] w
      fun e w' => e = .returned (.tuple #[]) ∧ ∃ g, SameIn f g n ∧ Up g n ∧ Sb b n g w w' := by
  have HS0 := hid hS
  have hcf := tcmp_in
  clear hS
  have HS := AllLt.start w; go_enter Try.func92, Try.ntmps92
  go_wp2_with fail
  go_loopw [8] (fun q wr => ∃ i : Nat, 1 ≤ i ∧ (i ≤ n ∨ i = 1) ∧ q = .int .i64 i ∧ ∃ g, Hid (SameIn f g n) ∧ Hid (Up g i) ∧ Hid (Sb b n g w wr)) (fun q _ => n - (intOf q).toNat)
  case atStart => exact ⟨1, by omega, by omega, by go_num, f, hid (SameIn.refl _ _), hid (fun p q h1 h2 => by omega), HS0⟩
  case round =>
    obtain ⟨i, hi1, hi2, rfl, g, HM, HU, HB⟩ := hrel
    clear HS0 HS
    by_cases hin : i < n
    · have hdi : decide ((i : Int) < (n : Int)) = true := by simp; omega
      go_wp2_with fail
      go_loopw [9] (fun q wr => ∃ j : Nat, j ≤ i ∧ q = .int .i64 j ∧ ∃ g, Hid (SameIn f g n) ∧ Hid (Ins g i j) ∧ Hid (Sb b n g w wr)) (fun q _ => (intOf q).toNat)
      case atStart => exact ⟨i, by omega, rfl, g, HM, hid (Ins.start HU.out), HB⟩
      case round =>
        obtain ⟨j, hj, rfl, g, HM, HI, HB⟩ := hrel
        obtain ⟨wi, rfl⟩ : ∃ wi : World, wi = wr := ⟨_, rfl⟩
        by_cases hj0 : 0 < j
        · have hdj : decide ((0 : Int) < (j : Int)) = true := by simp; omega
          have hjn : j < n := by omega
          have hj1 : j - 1 < n := by omega
          have c0 := HB.out.c j hjn
          have c1 := HB.out.c (j - 1) hj1
          have zb := HB.out.lt
          have hd1 : decide (j < n) = true := decide_eq_true hjn
          have hd2 : decide (j - 1 < n) = true := decide_eq_true hj1
          have hp0 : (0 : Int) ≤ (j : Int) - 1 := by omega
          have hp1 : (j : Int) - 1 < (n : Int) := by omega
          have hp2 : ¬ ((j : Int) - 1 < 0) := by omega
          have hp3 : decide ((0 : Int) ≤ (j : Int) - 1) = true := decide_eq_true hp0
          have hp4 : decide ((j : Int) - 1 < (n : Int)) = true := decide_eq_true hp1
          have hp5 : decide ((j : Int) - 1 < 0) = false := decide_eq_false hp2
          have hp6 : ((j : Int) - 1).toNat = j - 1 := by omega
          have hp8 : wrap64 ((j : Int) - 1) = (j : Int) - 1 := IntWalk.wrap64_in _ (by omega)
          have hp9 : (1 : Int) ≤ (j : Int) := by omega
          have hp10 : ¬ (n : Int) ≤ (j : Int) - 1 := by omega
          have hp11 : (j : Int) - 1 ≤ (n : Int) := by omega
          have hp7 : IntKind.i64.wrap ((j : Int) - 1) = (j : Int) - 1 := IntWalk.i64_in _ (by omega)
          have HSW := hid (fun (w2 : World) (hb : Below wi.heap.size wi w2) (m : Nat) => (HB.out.below hb).swap hj0 hjn m)
          have HCC := hid (fun (w2 : World) (hb : Below wi.heap.size wi w2) => HB.out.below hb)
          have HST := hid (fun (hlt : g j < g (j - 1)) => HI.out.step hj0 hlt)
          have HMS := hid (HM.out.trans (swap_in hj0 hjn))
          have HDN := hid (fun (hle : ¬ g j < g (j - 1)) => HI.out.done (.inr (by omega)))
          have HM2 := hid HM.out
          clear HI HM HB
          generalize hx : g j = x at *
          generalize hy : g (j - 1) = y at *
          have HXE := hid hx
          have HYE := hid hy
          clear hx hy
          by_cases hlt : x < y
          · have hcz : decide (cmz x y < 0) = true := by rw [cmz_neg]; exact decide_eq_true hlt
            have HG := hid (HST.out hlt)
            clear HST HDN hlt
            go_wp2_with fail
            go_region_held3 (fun wx => wx.cell? ⟨b, j, none⟩ = some (.int .i64 x) ∧ wx.cell? ⟨b, j - 1, none⟩ = some (.int .i64 y))
              (first | exact ⟨c0, c1⟩ | exact ⟨by rw [HX.cell (p := ⟨b, j, none⟩) zb]; exact c0, by rw [HX.cell (p := ⟨b, j - 1, none⟩) zb]; exact c1⟩ | go_keep)
              (first | (go_at_call 69; (with_reducible refine (tcmp_any _ _ _ _ _).mono ?_); rintro e w' ⟨rfl, hb⟩; obtain ⟨HX, hz0, hz, hcx, hfx⟩ := bst (w0 := wi) (by go_grown) hb; clear hb hz0 hz hcx hfx) | fail)
            all_goals
              have d0 := (HX.cell (p := ⟨b, j, none⟩) zb).trans c0
              have d1 := (HX.cell (p := ⟨b, j - 1, none⟩) zb).trans c1
              have HB2 := hid (HCC.out _ HX)
              have f0 := HB2.out.fr j hjn
              have f1 := HB2.out.fr (j - 1) hj1
              have HS2 := hid (HSW.out _ HX)
              clear HX c0 c1 HCC HSW
              obtain ⟨wj, rfl⟩ : ∃ wj : World, wj = w' := ⟨_, rfl⟩
              go_wp2_with fail
              go_region
              all_goals
                have HS3 := hid (show Sb b n (swapF g j) w (((wj.setCell ⟨b, j, none⟩ (.int .i64 y)).setCell ⟨b, j - 1, none⟩ (.int .i64 x)).drew) from by
                  have h := HS2.out 0
                  exact h.below ((Below.refl _ _).drew))
                clear HS2 d0 d1 f0 f1 HB2
                go_wp2_with fail
                go_roundw
                case rel => exact ⟨j - 1, by omega, by go_num, _, HMS, HG, HS3⟩
                case measure => simp [intOf]; omega
          · have hcz : decide (cmz x y < 0) = false := by rw [cmz_neg]; exact decide_eq_false hlt
            have HG := hid (HDN.out hlt)
            clear HST HDN hlt HSW
            go_wp2_with fail
            go_region_held3 (fun wx => wx.cell? ⟨b, j, none⟩ = some (.int .i64 x) ∧ wx.cell? ⟨b, j - 1, none⟩ = some (.int .i64 y))
              (first | exact ⟨c0, c1⟩ | exact ⟨by rw [HX.cell (p := ⟨b, j, none⟩) zb]; exact c0, by rw [HX.cell (p := ⟨b, j - 1, none⟩) zb]; exact c1⟩ | go_keep)
              (first | (go_at_call 69; (with_reducible refine (tcmp_any _ _ _ _ _).mono ?_); rintro e w' ⟨rfl, hb⟩; obtain ⟨HX, hz0, hz, hcx, hfx⟩ := bst (w0 := wi) (by go_grown) hb; clear hb hz0 hz hcx hfx) | fail)
            all_goals
              have HB2 := hid (HCC.out _ HX)
              clear HX c0 c1 HCC
              go_wp2_with fail
              go_roundw
              case rel => exact ⟨i + 1, by omega, by omega, by go_num, g, HM2, HG, HB2⟩
              case measure => simp [intOf]; omega
        · obtain rfl : j = 0 := by omega
          have hdj : decide ((0 : Int) < ((0 : Nat) : Int)) = false := by simp
          have HG := hid (HI.out.done (.inl rfl))
          go_wp2_with fail
          go_region
          go_wp2_with fail
          go_roundw
          case rel => exact ⟨i + 1, by omega, by omega, by go_num, g, HM, HG, hid (HB.out.below (by go_grown))⟩
          case measure => simp [intOf]; omega
    · have hdi : decide ((i : Int) < (n : Int)) = false := by simp; omega
      have HG := hid (show Up g n from fun p q h1 h2 => HU.out p q h1 (by omega))
      go_wp2_with fail
      go_end0
      exact ⟨rfl, g, HM.out, HG.out, HB.out⟩
set_option maxHeartbeats 2000000 in
set_option maxRecDepth 100000 in
theorem pdq_any (u v : Value) (b cap n : Nat) (f : Nat → Int) (l : Int) (w : World) (hn : n ≤ 12) (h1 : n ≤ cap) (hS : Sb b n f w w) :
    Calls Try.prog 85 #[.slice (some ⟨b, 0, none⟩) n cap, .int .i64 0, .int .i64 n, .int .i64 l, .func (.func 69) #[.agg #[u, v, .func (.func 56) #[] #[]]] #[]] w
      fun e w' => e = .returned (.tuple #[]) ∧ ∃ g, SameIn f g n ∧ Up g n ∧ Sb b n g w w' := by
  have HI := hid (insSort_any u v b cap n f w hn h1 hS)
  have hd : decide ((n : Int) ≤ 12) = true := by simp; omega
  clear hS
  have HS := AllLt.start w; go_enter Try.func85, Try.ntmps85
  go_wp2_with fail
  go_loopw [1, 2] (fun q1 q2 wr => q1 = .int .i64 0 ∧ q2 = .int .i64 n ∧ wr = w) (fun _ _ _ => 0)
  case atStart => exact ⟨rfl, rfl, rfl⟩
  case round =>
    obtain ⟨rfl, rfl, rfl⟩ := hrel
    go_wp2_with fail
    (with_reducible refine HI.out.mono ?_)
    rintro e w2 ⟨rfl, g, hM, hU, hB⟩
    go_wp2_with fail
    (try simp only [Exit.inBlock, Exit.then])
    refine bodyPost_ret (results_none rfl _ _ _) rfl ?_
    exact ⟨rfl, g, hM, hU, hB⟩
set_option maxRecDepth 100000 in
set_option maxHeartbeats 2000000 in
theorem bitsLen_any (n : Nat) (hn : n ≤ 12) (w : World) :
    Calls Try.prog 58 #[.int .u64 n] w fun e w' => (∃ l, e = .returned (.int .i64 l)) ∧ w = w' := by
  have hc : n = 0 ∨ n = 1 ∨ n = 2 ∨ n = 3 ∨ n = 4 ∨ n = 5 ∨ n = 6 ∨ n = 7 ∨ n = 8 ∨ n = 9 ∨ n = 10 ∨ n = 11 ∨ n = 12 := by omega
  have H64 : ∀ w : World, Calls Try.prog 82 #[.int .u64 n] w fun e w' => (∃ l, e = .returned (.int .i64 l)) ∧ w = w' := fun w => by
    rcases hc with rfl | rfl | rfl | rfl | rfl | rfl | rfl | rfl | rfl | rfl | rfl | rfl | rfl
    all_goals
      have HS := AllLt.start w; go_enter Try.func82, Try.ntmps82
      go_wp2
      go_ret
      exact ⟨⟨_, rfl⟩, rfl⟩
  have HC := hid H64
  clear H64 hc
  have HS := AllLt.start w; go_enter Try.func58, Try.ntmps58
  go_wp2_with fail
  (with_reducible refine (HC.out _).mono ?_)
  rintro e w2 ⟨⟨l, rfl⟩, rfl⟩
  go_wp2
  go_ret
  exact ⟨⟨_, rfl⟩, rfl⟩
set_option maxHeartbeats 1000000 in
theorem sortF_any (u v : Value) (b cap n : Nat) (f : Nat → Int) (w : World) (hn : n ≤ 12) (h1 : n ≤ cap) (hS : Sb b n f w w) :
    Calls Try.prog 68 #[.slice (some ⟨b, 0, none⟩) n cap, .func (.func 69) #[.agg #[u, v, .func (.func 56) #[] #[]]] #[]] w
      fun e w' => e = .returned (.tuple #[]) ∧ ∃ g, SameIn f g n ∧ Up g n ∧ Sb b n g w w' := by
  have HI := hid (fun l => pdq_any u v b cap n f l w hn h1 hS)
  have HL := hid (bitsLen_any n hn w)
  clear hS
  have HS := AllLt.start w; go_enter Try.func68, Try.ntmps68
  go_wp2_with fail
  (with_reducible refine HL.out.mono ?_)
  rintro e w2 ⟨⟨l, rfl⟩, rfl⟩
  go_wp2_with fail
  (with_reducible refine (HI.out l).mono ?_)
  rintro e w2 ⟨rfl, g, hM, hU, hB⟩
  go_wp2_with fail
  go_end0
  exact ⟨rfl, g, hM, hU, hB⟩
end Go.Proofs.Ytmdgkhebefnfeab.C
