/- The program: TriangleRel, WhyTriangle, IsClosed. -/
import Derived.Test.YtlmmjdaipedjjaaGreatDoorCloC
import Derived.Test.YtlmmjdaipedjjaaGreatDoorNetX
namespace Go.Proofs.YtlmmjdaipedjjaaGreatDoor.C
open Go.RowKit
set_option linter.unusedVariables false
set_option linter.unusedSimpArgs false
noncomputable def triI (z : Int) (s : ByteArray) (i k b : Int) : Int := if NV z s && hasB z i && hasB z k && hasB z b then (triN (mx z.toNat s) i.toNat k.toNat b.toNat : Nat) else -1
theorem triI_off {z : Int} {s : ByteArray} {i k b : Int} (h : (NV z s && hasB z i && hasB z k && hasB z b) = false) : triI z s i k b = -1 := by simp [triI, h]
theorem triI_in {n : Nat} {R : Nat → Nat → Nat} (h : OkR n R) {i k b : Nat} (hi : i < n) (hk : k < n) (hb : b < n) : triI n (netS n R) i k b = (triN R i k b : Nat) := by
  simp [triI, nv_net h, hasB_in hi, hasB_in hk, hasB_in hb, mx_net h]
noncomputable def whyI (z : Int) (s : ByteArray) (i k : Int) : Int := if NV z s && hasB z i && hasB z k then (match whyO (mx z.toNat s) i.toNat k.toNat z.toNat with | some b => (b : Int) | none => -1) else -2
theorem whyI_off {z : Int} {s : ByteArray} {i k : Int} (h : (NV z s && hasB z i && hasB z k) = false) : whyI z s i k = -2 := by simp [whyI, h]
theorem whyI_in {n : Nat} {R : Nat → Nat → Nat} (h : OkR n R) {i k : Nat} (hi : i < n) (hk : k < n) : whyI n (netS n R) i k = (match whyO R i k n with | some b => (b : Int) | none => -1) := by
  simp [whyI, nv_net h, hasB_in hi, hasB_in hk, mx_net h]
theorem whyI_yes {n : Nat} {R : Nat → Nat → Nat} (h : OkR n R) {i k : Nat} (hi : i < n) (hk : k < n) (hw : whyB R i k n = true) : whyI n (netS n R) i k = (whyN R i k n : Nat) := by
  rw [whyI_in h hi hk]
  unfold whyB at hw
  unfold whyN
  cases e : whyO R i k n with
  | none => rw [e] at hw; cases hw
  | some b => rfl
theorem whyI_none {n : Nat} {R : Nat → Nat → Nat} (h : OkR n R) {i k : Nat} (hi : i < n) (hk : k < n) (hw : whyB R i k n = false) : whyI n (netS n R) i k = -1 := by
  rw [whyI_in h hi hk]
  unfold whyB at hw
  cases e : whyO R i k n with
  | none => rfl
  | some b => rw [e] at hw; cases hw
/-- no node leaves less of a pair -/
noncomputable def clsB (n : Nat) (R : Nat → Nat → Nat) : Bool := !((edL n).any fun p => whyB R p.1 p.2 n)
noncomputable def clsI (z : Int) (s : ByteArray) : Bool := NV z s && clsB z.toNat (mx z.toNat s)
theorem clsI_no {z : Int} {s : ByteArray} (h : NV z s = false) : clsI z s = false := by simp [clsI, h]
theorem clsI_yes {n : Nat} {R : Nat → Nat → Nat} (h : OkR n R) : clsI n (netS n R) = clsB n R := by simp [clsI, nv_net h, mx_net h]
theorem clsB_iff {n : Nat} {R : Nat → Nat → Nat} : clsB n R = true ↔ Qt n R := by
  unfold clsB Qt
  rw [Bool.not_eq_true', List.any_eq_false]
  constructor
  · intro h p hp
    exact whyB_stb.1 (by simpa using h p hp)
  · intro h p hp
    rw [whyB_stb.2 (h p hp)]; simp
end Go.Proofs.YtlmmjdaipedjjaaGreatDoor.C
