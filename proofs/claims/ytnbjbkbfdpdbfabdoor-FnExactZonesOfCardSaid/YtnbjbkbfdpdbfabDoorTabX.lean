/- The exact laws of chapter 2's basic relations. -/
import Derived.Test.YtnbjbkbfdpdbfabDoorTab
import Derived.Test.YtnbjbkbfdpdbfabDoorTabS
namespace Go.Proofs.YtnbjbkbfdpdbfabDoor.C
open Go.RowKit
set_option linter.unusedVariables false
set_option linter.unusedSimpArgs false
theorem walk_FnExactBasicAt (a0 a1 : Int) (w : World) (w0 : (Lit.int .i64 a0).wf = true) (w1 : (Lit.int .i64 a1).wf = true) (hB : TB w) :
    Calls Tryd.prog 4 #[.int .i64 a0, .int .i64 a1] w fun e w' => e = .returned (.bool true) ∧ Below w.heap.size w w' := by
  clear w0 w1
  have HB := hid hB
  clear hB
  have hs := same_t (Eq.refl (ltrI (batI a0 a1)))
  have HS := AllLt.start w; go_enter Tryd.func4, Tryd.ntmps4
  go_wp2_with (first | (go_at_call 8; (with_reducible refine (sBasicAt_any _ _ _).mono ?_); rintro e w' ⟨rfl, rfl⟩) | (go_at_call 9; (with_reducible refine (iBasicAt_any _ _ _ HB.out).mono ?_); rintro e w' ⟨rfl, hb⟩))
  go_ret
  exact ⟨rfl, by assumption⟩
theorem walk_FnExactZonesOf (a0 : ByteArray) (w : World) (w0 : a0.size ≤ maxLen) (hB : TB w) :
    Calls Tryd.prog 3 #[.string a0] w fun e w' => e = .returned (.bool true) ∧ Below w.heap.size w w' := by
  have HB := hid hB
  clear hB
  unfold maxLen at w0
  by_cases hl : a0.size ≤ 1048576
  · have hd : decide ((1048576 : Int) < (a0.size : Int)) = false := by simp; omega
    have HS := AllLt.start w; go_enter Tryd.func3, Tryd.ntmps3
    go_wp2_with (first | (go_at_call 6; (with_reducible refine (sZonesOf_any a0 _ (by omega)).mono ?_); rintro e w' ⟨rfl, n, rfl⟩) | (go_at_call 7; (with_reducible refine (iZonesOf_any a0 _ (HB.out.drewN _)).mono ?_); rintro e w' ⟨rfl, hb⟩))
    go_ret
    exact ⟨rfl, by exact (below_drewN _ _ _).trans hb⟩
  · have hd : decide ((1048576 : Int) < (a0.size : Int)) = true := by simp; omega
    have HS := AllLt.start w; go_enter Tryd.func3, Tryd.ntmps3
    go_wp2
    go_ret
    exact ⟨rfl, Below.refl _ _⟩
end Go.Proofs.YtnbjbkbfdpdbfabDoor.C
