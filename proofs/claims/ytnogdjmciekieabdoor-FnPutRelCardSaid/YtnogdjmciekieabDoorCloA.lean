/- What is asked of all edges of a network: empty, atomic, nearly convex; the exact laws. -/
import Derived.Test.YtnogdjmciekieabDoorNetI
import Derived.Deep.DeepCutAuto
import Derived.Test.YtnogdjmciekieabDoorCloP
namespace Go.Proofs.YtnogdjmciekieabDoor.C
open Go.RowKit
set_option linter.unusedVariables false
set_option linter.unusedSimpArgs false
theorem ret_boolN {a b : Bool} (h : a = b) : Ending.returned (.bool (!a)) = .returned (.bool (!b)) := by rw [h]
/-! Empty networks -/
noncomputable def emp (n : Nat) (R : Nat → Nat → Nat) : Bool := !((edL n).all fun p => R p.1 p.2 != 0)
noncomputable def empI (z : Int) (s : ByteArray) : Bool := NV z s && emp z.toNat (mx z.toNat s)
theorem empI_no {z : Int} {s : ByteArray} (h : NV z s = false) : empI z s = false := by simp [empI, h]
theorem empI_yes {n : Nat} {R : Nat → Nat → Nat} (h : OkR n R) : empI n (netS n R) = emp n R := by simp [empI, nv_net h, mx_net h]
theorem emp_sq {n : Nat} {R : Nat → Nat → Nat} (h : OkR n R) : emp n R = true ↔ ∃ x, x < n * n ∧ R (x / n) (x % n) = 0 := by
  have := sq_all h (P := fun r => r != 0) (by decide) (fun r hr => by
    rw [Bool.eq_iff_iff, bne_iff_ne, bne_iff_ne]
    exact not_congr (tur_zero hr))
  have e : emp n R = true ↔ ¬ ((edL n).all fun p => R p.1 p.2 != 0) = true := by unfold emp; simp
  rw [e, List.all_eq_true, ← this]
  constructor
  · intro h
    exact Classical.byContradiction fun hn => h fun x hx => by
      rw [bne_iff_ne]
      exact fun e => hn ⟨x, hx, e⟩
  · rintro ⟨x, hx, e⟩ h
    have := h x hx
    rw [e] at this
    cases this
end Go.Proofs.YtnogdjmciekieabDoor.C
