/- In how many ways one basic relation can be chosen for each pair: the exact law. -/
import Derived.Test.YtnogdjmciekieaaDoorNetY
namespace Go.Proofs.YtnogdjmciekieaaDoor.C
open Go.RowKit
set_option linter.unusedVariables false
set_option linter.unusedSimpArgs false
theorem prd_lt' {R : Nat → Nat → Nat} (hR : ∀ a b, R a b < 8192) {l : List (Nat × Nat)} (h : l.length ≤ 15) : prdL R l < 100000000000000000 := by have := prdL_lt hR h; omega
noncomputable def ccI (z : Int) (s : ByteArray) : Int := if NV z s then (prdL (mx z.toNat s) (edL z.toNat) : Nat) else -1
theorem ccI_no {z : Int} {s : ByteArray} (h : NV z s = false) : ccI z s = -1 := by simp [ccI, h]
theorem ccI_yes {n : Nat} {R : Nat → Nat → Nat} (h : OkR n R) : ccI n (netS n R) = (prdL R (edL n) : Nat) := by simp [ccI, nv_net h, mx_net h]
end Go.Proofs.YtnogdjmciekieaaDoor.C
