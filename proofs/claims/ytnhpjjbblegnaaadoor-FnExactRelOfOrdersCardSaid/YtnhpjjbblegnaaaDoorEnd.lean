/- Walks over the orders of the ends of two intervals in a basic relation, turned and mirrored ones. -/
import Derived.Test.YtnhpjjbblegnaaaDoorTab
import Derived.Test.YtnhpjjbblegnaaaDoorSet
import Derived.Deep.RegionWith
import Derived.Deep.RegionHeld3
import Derived.DeepKeys
namespace Go.Proofs.YtnhpjjbblegnaaaDoor.C
open Go.RowKit
set_option linter.unusedVariables false
set_option linter.unusedSimpArgs false
theorem orderTo_any (x y : Int) (w : World) :
    Calls Tryd.prog 94 #[.int .i64 x, .int .i64 y] w fun e w' => e = .returned (.int .i64 (ord x y)) ∧ w = w' := by
  have HS := AllLt.start w; go_enter Tryd.func94, Tryd.ntmps94
  go_wp2_with (first | (go_at_call 96; (with_reducible refine (compareNumbers_any _ _ _).mono ?_); rintro e w' ⟨rfl, rfl⟩))
  go_ret
  exact ⟨rfl, rfl⟩
theorem ends_any (k : Nat) (hk : k < 13) (w : World) (hT : TB w) :
    Calls Tryd.prog 81 #[.int .i64 k] w fun e w' => e = .returned (.agg #[.int .i64 (ord (zf k) 1), .int .i64 (ord (zf k) 3), .int .i64 (ord (zt k) 1), .int .i64 (ord (zt k) 3)]) ∧ Below w.heap.size w w' := by
  have HT := hid hT
  clear hT
  have hB1 : Hid (∀ o, TB (w.alloc o)) := hid fun o => HT.out.below ((Below.refl _ _).alloc (Nat.le_refl _) _)
  have HS := AllLt.start w; go_enter Tryd.func81, Tryd.ntmps81
  go_wp2_with (first | (go_at_call 63; (with_reducible refine (zones_any k hk _ (hB1.out _)).mono ?_); rintro e w' ⟨rfl, n, rfl⟩) | (go_at_call 94; (with_reducible refine (orderTo_any _ _ _).mono ?_); rintro e w' ⟨rfl, rfl⟩))
  refine bodyPost_ret (by simp [results, Tryd.results81, go_sem, *]; try rfl) rfl ?_
  exact ⟨rfl, by (repeat' (first | (with_reducible exact Below.refl _ _) | (with_reducible refine Below.setCell ?_ ?_ _) | (with_reducible refine below_drewN' ?_ _) | (with_reducible refine below_drew' ?_) | (with_reducible refine Below.alloc ?_ ?_ _) | (with_reducible assumption) | go_size))⟩
end Go.Proofs.YtnhpjjbblegnaaaDoor.C
