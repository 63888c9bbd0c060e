/- The model: what a third node leaves, TriangleRel, WhyTriangle. -/
import Derived.Test.YtnogdjmciekieabDoorCloM
import Derived.Test.YtnogdjmciekieabDoorNetC
import Derived.Test.YtnogdjmciekieabDoorNetO
namespace Go.Proofs.YtnogdjmciekieabDoor.C
open Go.RowKit
set_option linter.unusedVariables false
set_option linter.unusedSimpArgs false
def fl (n : Nat) (R : Nat → Nat → Nat) : Nat → Nat := fun x => R (x / n) (x % n)
theorem fl_at (n : Nat) (R : Nat → Nat → Nat) {i k : Nat} (hk : k < n) : fl n R (i * n + k) = R i k := by
  unfold fl; rw [(at_div hk).1, (at_div hk).2]
theorem ts_fl {w : World} {n b : Nat} {R : Nat → Nat → Nat} {u : Value} (h : w.ownsRow b 3 1 u (n * n) (rowL (fun x => R (x / n) (x % n)) (n * n))) : Ts w w.heap.size u (n * n) (fl n R) := Ts.of_own h
/-- A call that draws nothing, in a second region of one walk. -/
theorem calm_behind {P : Program} {f : FuncId} {args : Array Value} {w : World} {a n : Nat} {v : Value} (h : ∀ W : World, W = w.drewN (a + n) → Calls P f args W fun e w' => e = .returned v ∧ W = w') :
    Calls P f args (w.drewN (a + n)) fun e w'' => e = .returned v ∧ ∃ m, w'' = w.drewN (a + m) :=
  (h _ rfl).mono fun _ _ ⟨he, hm⟩ => ⟨he, n, hm.symm⟩
end Go.Proofs.YtnogdjmciekieabDoor.C
