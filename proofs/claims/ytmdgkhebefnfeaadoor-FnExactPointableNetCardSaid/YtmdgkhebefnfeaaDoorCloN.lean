/- Empty, atomic and nearly convex networks: the program, the model, the exact laws. Atomic networks: the exact law. Networks of nearly convex relations: the exact law. -/
import Derived.Test.YtmdgkhebefnfeaaDoorCloA
import Derived.Test.YtmdgkhebefnfeaaDoorNetC
import Derived.Test.YtmdgkhebefnfeaaDoorNetO
import Derived.Test.YtmdgkhebefnfeaaDoorHulX
import Derived.Test.YtmdgkhebefnfeaaDoorLatN
namespace Go.Proofs.YtmdgkhebefnfeaaDoor.C
section
open Go.RowKit
set_option linter.unusedVariables false
set_option linter.unusedSimpArgs false
end
section
open Go.RowKit
set_option linter.unusedVariables false
set_option linter.unusedSimpArgs false
noncomputable def atm (n : Nat) (R : Nat → Nat → Nat) : Bool := (edL n).all fun p => onesN 13 (R p.1 p.2) == 1
noncomputable def atmI (z : Int) (s : ByteArray) : Bool := NV z s && atm z.toNat (mx z.toNat s)
theorem atmI_no {z : Int} {s : ByteArray} (h : NV z s = false) : atmI z s = false := by simp [atmI, h]
theorem atmI_yes {n : Nat} {R : Nat → Nat → Nat} (h : OkR n R) : atmI n (netS n R) = atm n R := by simp [atmI, nv_net h, mx_net h]
theorem atm_prd {n : Nat} {R : Nat → Nat → Nat} : (((prdL R (edL n) : Nat) : Int) == 1) = atm n R := by
  rw [Bool.eq_iff_iff, beq_iff_eq]
  unfold atm
  rw [List.all_eq_true]
  have := prdL_one (R := R) (edL n).length rfl
  constructor
  · intro h p hp
    have h1 : prdL R (edL n) = 1 := by omega
    rw [this.1 h1 p hp]; rfl
  · intro h
    have h1 := this.2 fun p hp => by simpa using h p hp
    omega
end
section
open Go.RowKit
set_option linter.unusedVariables false
set_option linter.unusedSimpArgs false
theorem pcB_tur {n : Nat} (h : n < 8192) : pcB ((turN n : Nat) : Int) = pcB n := by
  rw [pcB_on (turN_lt n), pcB_on h, ← clos_tur, ← hull_tur (closN_lt n), Bool.eq_iff_iff, decide_eq_true_iff, decide_eq_true_iff]
  have hc := closN_lt n
  have hh : hull (closN n) < 8192 := hull_lt _
  generalize closN n = c at *
  constructor
  · intro e
    have e1 : turN (hull c) = turN c := by omega
    have e2 := congrArg turN e1
    rw [tt_n hh, tt_n hc] at e2
    omega
  · intro e
    have e1 : hull c = c := by omega
    rw [e1]
noncomputable def ncv (n : Nat) (R : Nat → Nat → Nat) : Bool := (edL n).all fun p => pcB ((R p.1 p.2 : Nat) : Int)
noncomputable def ncvI (z : Int) (s : ByteArray) : Bool := NV z s && ncv z.toNat (mx z.toNat s)
theorem ncvI_no {z : Int} {s : ByteArray} (h : NV z s = false) : ncvI z s = false := by simp [ncvI, h]
theorem ncvI_yes {n : Nat} {R : Nat → Nat → Nat} (h : OkR n R) : ncvI n (netS n R) = ncv n R := by simp [ncvI, nv_net h, mx_net h]
theorem ncv_sq {n : Nat} {R : Nat → Nat → Nat} (h : OkR n R) : (∀ x, x < n * n → pcB ((R (x / n) (x % n) : Nat) : Int) = true) ↔ ncv n R = true := by
  have := sq_all h (P := fun r => pcB ((r : Nat) : Int)) (by decide +kernel) (fun r hr => pcB_tur hr)
  unfold ncv
  rw [List.all_eq_true]
  exact this
end
end Go.Proofs.YtmdgkhebefnfeaaDoor.C
