/- Chapter 4: the model's words: how free, near, closures, next, steps. -/
import Derived.Test.YtlmmjdaipedjjaaDoorLst
import Derived.Deep.RegionHeld3
import Derived.Deep.RegionWith
namespace Go.Proofs.YtlmmjdaipedjjaaDoor.C
open Go.RowKit
set_option linter.unusedVariables false
set_option linter.unusedSimpArgs false
theorem zf_at {k : Nat} (h : k < 13) (w : World) : (Instr.index 9 (.string ⟨#[48, 48, 48, 49, 50, 50, 49, 48, 48, 49, 50, 51, 52]⟩) (.int .i64 k)).run Tryd.prog w = .ok (.int .u8 (zf k + 48)) w := by
  rcases nat13 h with rfl | rfl | rfl | rfl | rfl | rfl | rfl | rfl | rfl | rfl | rfl | rfl | rfl <;> kernel_rfl
theorem zt_at {k : Nat} (h : k < 13) (w : World) : (Instr.index 9 (.string ⟨#[48, 49, 50, 50, 50, 51, 51, 51, 52, 52, 52, 52, 52]⟩) (.int .i64 k)).run Tryd.prog w = .ok (.int .u8 (zt k + 48)) w := by
  rcases nat13 h with rfl | rfl | rfl | rfl | rfl | rfl | rfl | rfl | rfl | rfl | rfl | rfl | rfl <;> kernel_rfl
theorem z5 {x : Int} (h : 0 ≤ x ∧ x ≤ 4) : x = 0 ∨ x = 1 ∨ x = 2 ∨ x = 3 ∨ x = 4 := by omega
theorem ev_mod {x : Int} (h : 0 ≤ x ∧ x ≤ 4) : 1 - x % 2 = evZ x := by
  rcases z5 h with rfl | rfl | rfl | rfl | rfl <;> decide
theorem l4Near_any (x y : Int) (hx : 0 ≤ x ∧ x ≤ 4) (hy : 0 ≤ y ∧ y ≤ 4) (w : World) :
    Calls Tryd.prog 120 #[.int .i64 x, .int .i64 y] w fun e w' => e = .returned (.bool (nearZ y x)) ∧ w = w' := by
  rcases z5 hx with rfl | rfl | rfl | rfl | rfl <;> rcases z5 hy with rfl | rfl | rfl | rfl | rfl
  all_goals
    clear hx hy
    have HS := AllLt.start w; go_enter Tryd.func120, Tryd.ntmps120
    go_wp2
    go_ret
    exact ⟨ret_bool (by decide), rfl⟩
/-- what is near to i, up to k -/
def clI (n i k : Nat) : Nat := orN (fun k => bt (n.testBit i && nearB i k) k) k
def clO (n i : Nat) : Nat := orN (fun i => clI n i 13) i
theorem clI_lt {n i k : Nat} (hk : k ≤ 13) : clI n i k < 8192 := orN_lt fun j hj => bt_lt (by omega)
theorem clO_lt {n i : Nat} : clO n i < 8192 := orN_lt fun j hj => clI_lt (Nat.le_refl _)
theorem clI_hit {n i k : Nat} (h1 : n.testBit i = true) (h2 : nearB i k = true) : clI n i (k + 1) = clI n i k ||| 2 ^ k := by simp [clI, orN, bt, h1, h2]
theorem clI_miss {n i k : Nat} (h2 : nearB i k = false) : clI n i (k + 1) = clI n i k := by simp [clI, orN, bt, h2]
theorem clI_off {n i : Nat} (h : n.testBit i = false) (k : Nat) : clI n i k = 0 := by
  have : (fun k => bt (n.testBit i && nearB i k) k) = fun _ => 0 := by funext k; simp [bt, h]
  rw [clI, this, orN_zero]
theorem cl_all (n : Nat) : clO n 13 = closN n := by
  refine set_ext clO_lt (closN_lt n) fun j hj => ?_
  rw [Bool.eq_iff_iff, clO, orN_test, closN, whN_test hj, List.any_eq_true]
  constructor
  · rintro ⟨i, hi, h⟩
    rw [clI, orN_test] at h
    obtain ⟨k, hk, hb⟩ := h
    obtain ⟨h1, rfl⟩ := bt_test.1 hb
    rw [Bool.and_eq_true] at h1
    exact ⟨i, bl_mem.2 ⟨hi, h1.1⟩, h1.2⟩
  · rintro ⟨i, hi, h⟩
    obtain ⟨h1, h2⟩ := bl_mem.1 hi
    exact ⟨i, h1, by rw [clI, orN_test]; exact ⟨j, hj, bt_test.2 ⟨by rw [h2, h]; rfl, rfl⟩⟩⟩
set_option maxHeartbeats 4000000 in
theorem l4Closure_any (n : Nat) (hn : n < 8192) (w : World) :
    Calls Tryd.prog 90 #[.int .i64 n] w fun e w' => e = .returned (.int .i64 ((closN n : Nat) : Int)) ∧ Below w.heap.size w w' := by
  have HS := AllLt.start w; go_enter Tryd.func90, Tryd.ntmps90
  go_wp2
  go_loopw [3, 4] (fun acc v wr => ∃ i : Nat, i ≤ 13 ∧ v = .int .i64 i ∧ acc = .int .i64 ((clO n i : Nat) : Int) ∧ Hid (Below w.heap.size w wr)) (fun _ v _ => 13 - (intOf v).toNat)
  case atStart => exact ⟨0, by omega, rfl, rfl, hid (Below.refl _ _)⟩
  case round =>
    obtain ⟨i, hi, rfl, rfl, HB⟩ := hrel
    clear HS
    obtain ⟨wo, rfl⟩ : ∃ wo : World, wo = wr := ⟨_, rfl⟩
    by_cases h13 : i < 13
    · have hdi : decide ((i : Int) < 13) = true := by simp; omega
      cases hq : n.testBit i
      · have HQ := hid hq
        have HF : Hid (clO n (i + 1) = clO n i) := hid (by rw [clO, orN, clI_off hq]; simp [clO])
        clear hq
        go_wp2
        go_loopw [3, 5] (fun acc v wr => v = .int .i64 0 ∧ acc = .int .i64 ((clO n i : Nat) : Int) ∧ Hid (Below w.heap.size w wr)) (fun _ v _ => 13 - (intOf v).toNat)
        case atStart => exact ⟨rfl, rfl, HB⟩
        case round =>
          obtain ⟨rfl, rfl, HB2⟩ := hrel
          go_wp2_with (first | (go_at_call 113; (with_reducible refine (l3Has_any n i hn h13 _).mono ?_); rintro e w' ⟨rfl, rfl⟩; rw [HQ.out]))
          go_roundw
          case rel => exact ⟨i + 1, by omega, by go_num, by rw [HF.out], HB2⟩
          case measure => simp [intOf]; omega
      · have HQ := hid hq
        have HF : Hid (clO n (i + 1) = clO n i ||| clI n i 13) := hid rfl
        have i1 := zf_at h13
        have i2 := zt_at h13
        have z1 := zf_in h13
        have z2 := zt_in h13
        go_wp2
        go_loopw [3, 5] (fun acc v wr => ∃ k : Nat, k ≤ 13 ∧ v = .int .i64 k ∧ acc = .int .i64 ((clO n i ||| clI n i k : Nat) : Int) ∧ Hid (Below w.heap.size w wr)) (fun _ v _ => 13 - (intOf v).toNat)
        case atStart => exact ⟨0, by omega, rfl, by simp [clI, orN], HB⟩
        case round =>
          obtain ⟨k, hk, rfl, rfl, HB2⟩ := hrel
          obtain ⟨wi, rfl⟩ : ∃ wi : World, wi = wr := ⟨_, rfl⟩
          by_cases k13 : k < 13
          · have hdk : decide ((k : Int) < 13) = true := by simp; omega
            have i3 := zf_at k13
            have i4 := zt_at k13
            have z3 := zf_in k13
            have z4 := zt_in k13
            have HP : Hid (nearB i k = (nearZ (zf k) (zf i) && nearZ (zt k) (zt i))) := hid rfl
            have HH := hid (show nearB i k = true → _ from fun h => (i64_or _ _ (or_lt (clO_lt (n := n) (i := i)) (clI_lt (n := n) (i := i) hk)) (pow_lt k13)).trans (congrArg _ (show _ = clO n i ||| clI n i (k + 1) by rw [clI_hit hq h, Nat.or_assoc])))
            have HM := hid (show nearB i k = false → _ from fun h => clI_miss (n := n) h)
            have HW := hid (sh_wrap k13)
            generalize zf i = x at *
            generalize zt i = y at *
            generalize zf k = x' at *
            generalize zt k = y' at *
            obtain ⟨x1, x2⟩ := z1
            obtain ⟨y1, y2⟩ := z2
            obtain ⟨x3, x4⟩ := z3
            obtain ⟨y3, y4⟩ := z4
            have N1 : ∀ (r : Bool), nearZ x' x = r → ∀ w : World, Calls Tryd.prog 120 #[.int .i64 x, .int .i64 x'] w fun e w' => e = .returned (.bool r) ∧ w' = w := fun r h w => by
              rw [← h]
              exact (l4Near_any x x' ⟨x1, x2⟩ ⟨x3, x4⟩ w).mono fun _ _ ⟨a, b⟩ => ⟨a, b.symm⟩
            have N2 : ∀ (r : Bool), nearZ y' y = r → ∀ w : World, Calls Tryd.prog 120 #[.int .i64 y, .int .i64 y'] w fun e w' => e = .returned (.bool r) ∧ w' = w := fun r h w => by
              rw [← h]
              exact (l4Near_any y y' ⟨y1, y2⟩ ⟨y3, y4⟩ w).mono fun _ _ ⟨a, b⟩ => ⟨a, b.symm⟩
            cases q1 : nearZ x' x
            · have H1 := hid (N1 _ q1)
              have HF2 := hid (HM.out (by rw [HP.out, q1]; rfl))
              clear q1 HH HM HP hq N1 N2
              go_wp2_with (first | (go_at_call 113; (with_reducible refine (l3Has_any n i hn h13 _).mono ?_); rintro e w' ⟨rfl, rfl⟩; rw [HQ.out]))
              go_quiet (first | (go_at_call 120; with_reducible exact Calls.quiet_of_same (H1.out _)))
              go_wp2
              go_roundw
              case rel => exact ⟨k + 1, by omega, by go_num, by rw [HF2.out], hid (by exact below_drewN' HB2.out _)⟩
              case measure => simp [intOf]; omega
            · have H1 := hid (N1 _ q1)
              cases q2 : nearZ y' y
              · have H2 := hid (N2 _ q2)
                have HF2 := hid (HM.out (by rw [HP.out, q1, q2]; rfl))
                clear q1 q2 HH HM HP hq N1 N2
                go_wp2_with (first | (go_at_call 113; (with_reducible refine (l3Has_any n i hn h13 _).mono ?_); rintro e w' ⟨rfl, rfl⟩; rw [HQ.out]))
                go_quiet (first | (go_at_call 120; with_reducible exact Calls.quiet_of_same (H1.out _)) | (go_at_call 120; with_reducible exact Calls.quiet_of_same (H2.out _)))
                go_wp2
                go_roundw
                case rel => exact ⟨k + 1, by omega, by go_num, by rw [HF2.out], hid (by exact below_drewN' HB2.out _)⟩
                case measure => simp [intOf]; omega
              · have H2 := hid (N2 _ q2)
                have HF2 := hid (HH.out (by rw [HP.out, q1, q2]; rfl))
                clear q1 q2 HH HM HP hq N1 N2
                go_wp2_with (first | (go_at_call 113; (with_reducible refine (l3Has_any n i hn h13 _).mono ?_); rintro e w' ⟨rfl, rfl⟩; rw [HQ.out]))
                go_quiet (first | (go_at_call 120; with_reducible exact Calls.quiet_of_same (H1.out _)) | (go_at_call 120; with_reducible exact Calls.quiet_of_same (H2.out _)))
                go_wp2
                go_roundw
                case rel => exact ⟨k + 1, by omega, by go_num, ret_val (by rw [HW.out]; exact HF2.out), hid (by exact below_drewN' HB2.out _)⟩
                case measure => simp [intOf]; omega
          · obtain rfl : k = 13 := by omega
            have hdk : decide (((13 : Nat) : Int) < 13) = false := by simp
            go_wp2
            go_roundw
            case rel => exact ⟨i + 1, by omega, by go_num, by rw [HF.out], HB2⟩
            case measure => simp [intOf]; omega
    · obtain rfl : i = 13 := by omega
      have hdi : decide (((13 : Nat) : Int) < 13) = false := by simp
      have HE := hid (cl_all n)
      go_wp2
      go_ret
      exact ⟨ret_int (by rw [HE.out]), HB.out⟩
theorem next_num {i k : Nat} (hi : i < 13) (hk : k < 13) : ((zf k - zf i) * (zf k - zf i) + (zt k - zt i) * (zt k - zt i) == 1) = nextB i k := by
  have h : all13 (fun i => all13 fun k => ((zf k - zf i) * (zf k - zf i) + (zt k - zt i) * (zt k - zt i) == 1) == nextB i k) = true := by decide +kernel
  simpa using all13_of (all13_of h hi) hk
theorem sq_in {x f : Int} (hx : 0 ≤ x ∧ x ≤ 4) (hf : 0 ≤ f ∧ f ≤ 4) : 0 ≤ (x - f) * (x - f) ∧ (x - f) * (x - f) ≤ 16 := by
  rcases z5 hx with rfl | rfl | rfl | rfl | rfl <;> rcases z5 hf with rfl | rfl | rfl | rfl | rfl <;> decide
/-- one move more -/
def moF (b i : Nat) (j : Nat) : Nat := rchN b i ||| orN (fun j => if (rchN b i).testBit j then nextN j else 0) j
theorem moF_lt {b i j : Nat} (hb : b < 13) (hi : i < 9) : moF b i j < 8192 := or_lt (rchN_lt hb hi) (orN_lt fun k _ => by
  split
  · exact whN_lt _
  · decide)
theorem moF_hit {b i j : Nat} (h : (rchN b i).testBit j = true) : moF b i (j + 1) = moF b i j ||| nextN j := by simp [moF, orN, h, Nat.or_assoc]
theorem moF_miss {b i j : Nat} (h : (rchN b i).testBit j = false) : moF b i (j + 1) = moF b i j := by simp [moF, orN, h]
end Go.Proofs.YtlmmjdaipedjjaaDoor.C
