/- Walks over the orders of the ends of two intervals in a basic relation, turned and mirrored ones. -/
import Derived.Test.YtnbjbkbfdpdbfabDoorTab
import Derived.Test.YtnbjbkbfdpdbfabDoorSet
import Derived.Deep.RegionWith
import Derived.Deep.RegionHeld3
import Derived.DeepKeys
namespace Go.Proofs.YtnbjbkbfdpdbfabDoor.C
open Go.RowKit
set_option linter.unusedVariables false
set_option linter.unusedSimpArgs false
theorem orderTo_any (x y : Int) (w : World) :
    Calls Tryd.prog 29 #[.int .i64 x, .int .i64 y] w fun e w' => e = .returned (.int .i64 (ord x y)) ∧ w = w' := by
  have HS := AllLt.start w; go_enter Tryd.func29, Tryd.ntmps29
  go_wp2_with (first | (go_at_call 30; (with_reducible refine (compareNumbers_any _ _ _).mono ?_); rintro e w' ⟨rfl, rfl⟩))
  go_ret
  exact ⟨rfl, rfl⟩
theorem ends_any (k : Nat) (hk : k < 13) (w : World) (hT : TB w) :
    Calls Tryd.prog 24 #[.int .i64 k] w fun e w' => e = .returned (.agg #[.int .i64 (ord (zf k) 1), .int .i64 (ord (zf k) 3), .int .i64 (ord (zt k) 1), .int .i64 (ord (zt k) 3)]) ∧ Below w.heap.size w w' := by
  have HT := hid hT
  clear hT
  have hB1 : Hid (∀ o, TB (w.alloc o)) := hid fun o => HT.out.below ((Below.refl _ _).alloc (Nat.le_refl _) _)
  have HS := AllLt.start w; go_enter Tryd.func24, Tryd.ntmps24
  go_wp2_with (first | (go_at_call 17; (with_reducible refine (zones_any k hk _ (hB1.out _)).mono ?_); rintro e w' ⟨rfl, n, rfl⟩) | (go_at_call 29; (with_reducible refine (orderTo_any _ _ _).mono ?_); rintro e w' ⟨rfl, rfl⟩))
  refine bodyPost_ret (by simp [results, Tryd.results24, go_sem, *]; try rfl) rfl ?_
  exact ⟨rfl, by (repeat' (first | (with_reducible exact Below.refl _ _) | (with_reducible refine Below.setCell ?_ ?_ _) | (with_reducible refine below_drewN' ?_ _) | (with_reducible refine below_drew' ?_) | (with_reducible refine Below.alloc ?_ ?_ _) | (with_reducible assumption) | go_size))⟩
end Go.Proofs.YtnbjbkbfdpdbfabDoor.C
