/- Chapter 4: the model's words: how free, near, closures, next, steps. -/
import Derived.Test.YtmdgkhebefnfeaaDoorLst
import Derived.Deep.RegionHeld3
import Derived.Deep.RegionWith
namespace Go.Proofs.YtmdgkhebefnfeaaDoor.C
open Go.RowKit
set_option linter.unusedVariables false
set_option linter.unusedSimpArgs false
theorem zf_at {k : Nat} (h : k < 13) (w : World) : (Instr.index 9 (.string ⟨#[48, 48, 48, 49, 50, 50, 49, 48, 48, 49, 50, 51, 52]⟩) (.int .i64 k)).run Tryd.prog w = .ok (.int .u8 (zf k + 48)) w := by
  rcases nat13 h with rfl | rfl | rfl | rfl | rfl | rfl | rfl | rfl | rfl | rfl | rfl | rfl | rfl <;> kernel_rfl
theorem zt_at {k : Nat} (h : k < 13) (w : World) : (Instr.index 9 (.string ⟨#[48, 49, 50, 50, 50, 51, 51, 51, 52, 52, 52, 52, 52]⟩) (.int .i64 k)).run Tryd.prog w = .ok (.int .u8 (zt k + 48)) w := by
  rcases nat13 h with rfl | rfl | rfl | rfl | rfl | rfl | rfl | rfl | rfl | rfl | rfl | rfl | rfl <;> kernel_rfl
theorem z5 {x : Int} (h : 0 ≤ x ∧ x ≤ 4) : x = 0 ∨ x = 1 ∨ x = 2 ∨ x = 3 ∨ x = 4 := by omega
theorem ev_mod {x : Int} (h : 0 ≤ x ∧ x ≤ 4) : 1 - x % 2 = evZ x := by
  rcases z5 h with rfl | rfl | rfl | rfl | rfl <;> decide
/-- what is near to i, up to k -/
def clI (n i k : Nat) : Nat := orN (fun k => bt (n.testBit i && nearB i k) k) k
def clO (n i : Nat) : Nat := orN (fun i => clI n i 13) i
theorem clI_lt {n i k : Nat} (hk : k ≤ 13) : clI n i k < 8192 := orN_lt fun j hj => bt_lt (by omega)
theorem clO_lt {n i : Nat} : clO n i < 8192 := orN_lt fun j hj => clI_lt (Nat.le_refl _)
theorem clI_hit {n i k : Nat} (h1 : n.testBit i = true) (h2 : nearB i k = true) : clI n i (k + 1) = clI n i k ||| 2 ^ k := by simp [clI, orN, bt, h1, h2]
theorem clI_miss {n i k : Nat} (h2 : nearB i k = false) : clI n i (k + 1) = clI n i k := by simp [clI, orN, bt, h2]
theorem clI_off {n i : Nat} (h : n.testBit i = false) (k : Nat) : clI n i k = 0 := by
  have : (fun k => bt (n.testBit i && nearB i k) k) = fun _ => 0 := by funext k; simp [bt, h]
  rw [clI, this, orN_zero]
theorem cl_all (n : Nat) : clO n 13 = closN n := by
  refine set_ext clO_lt (closN_lt n) fun j hj => ?_
  rw [Bool.eq_iff_iff, clO, orN_test, closN, whN_test hj, List.any_eq_true]
  constructor
  · rintro ⟨i, hi, h⟩
    rw [clI, orN_test] at h
    obtain ⟨k, hk, hb⟩ := h
    obtain ⟨h1, rfl⟩ := bt_test.1 hb
    rw [Bool.and_eq_true] at h1
    exact ⟨i, bl_mem.2 ⟨hi, h1.1⟩, h1.2⟩
  · rintro ⟨i, hi, h⟩
    obtain ⟨h1, h2⟩ := bl_mem.1 hi
    exact ⟨i, h1, by rw [clI, orN_test]; exact ⟨j, hj, bt_test.2 ⟨by rw [h2, h]; rfl, rfl⟩⟩⟩
theorem next_num {i k : Nat} (hi : i < 13) (hk : k < 13) : ((zf k - zf i) * (zf k - zf i) + (zt k - zt i) * (zt k - zt i) == 1) = nextB i k := by
  have h : all13 (fun i => all13 fun k => ((zf k - zf i) * (zf k - zf i) + (zt k - zt i) * (zt k - zt i) == 1) == nextB i k) = true := by decide +kernel
  simpa using all13_of (all13_of h hi) hk
theorem sq_in {x f : Int} (hx : 0 ≤ x ∧ x ≤ 4) (hf : 0 ≤ f ∧ f ≤ 4) : 0 ≤ (x - f) * (x - f) ∧ (x - f) * (x - f) ≤ 16 := by
  rcases z5 hx with rfl | rfl | rfl | rfl | rfl <;> rcases z5 hf with rfl | rfl | rfl | rfl | rfl <;> decide
/-- one move more -/
def moF (b i : Nat) (j : Nat) : Nat := rchN b i ||| orN (fun j => if (rchN b i).testBit j then nextN j else 0) j
theorem moF_lt {b i j : Nat} (hb : b < 13) (hi : i < 9) : moF b i j < 8192 := or_lt (rchN_lt hb hi) (orN_lt fun k _ => by
  split
  · exact whN_lt _
  · decide)
theorem moF_hit {b i j : Nat} (h : (rchN b i).testBit j = true) : moF b i (j + 1) = moF b i j ||| nextN j := by simp [moF, orN, h, Nat.or_assoc]
theorem moF_miss {b i j : Nat} (h : (rchN b i).testBit j = false) : moF b i (j + 1) = moF b i j := by simp [moF, orN, h]
end Go.Proofs.YtmdgkhebefnfeaaDoor.C
