/- The law of turned and mirrored basic relations. -/
import Derived.Test.YtnhpjjbblegnaabDoorDraw
import Derived.Test.YtnhpjjbblegnaabDoorTurn
import Derived.Test.YtnhpjjbblegnaabDoorEndsX
import Derived.Deep.RegionHeld3
namespace Go.Proofs.YtnhpjjbblegnaabDoor.C
open Go.RowKit
set_option linter.unusedVariables false
set_option linter.unusedSimpArgs false
theorem l2One_any (B q m : Nat) (w : World) (h : Rd B w q m) (hm : m ≤ 1000000000) :
    Calls Tryd.prog 87 #[.pointer (some ⟨q, 0, none⟩)] w (DrewS (fun v => v.size ≤ 2) B q (m + 2) w) := by
  have HS := AllLt.start w; go_enter Tryd.func87, Tryd.ntmps87
  go_wp2_with fail
  refine (pick_any B q m _ _ h (by omega) (by omega) (by omega)).mono ?_
  rintro e w1 ⟨k, hk, rfl, hR, hW⟩
  by_cases hk0 : k = 0
  · subst hk0
    go_wp2_with fail
    refine (of_new B q (m + 1) _ (fun v => v.size ≤ 2) [⟨#[]⟩, ⟨#[120]⟩, ⟨#[98, 109]⟩, ⟨#[69]⟩] 4 _ _ hR (by simp) rfl (by omega) (by omega) (by omega) (by decide)).mono ?_
    rintro e w2 ⟨v, hv, rfl, hR2, hW2⟩
    have HF : Hid (∀ e w', e = .returned (.string v) → w2 = w' → DrewS (fun v => v.size ≤ 2) B q (m + 2) w e w') := hid fun e w' c1 c2 => DrewS.of (good := fun v => v.size ≤ 2) (hW.trans hW2) hR2 hv c1 c2
    clear hR hW hR2 hW2 h hv
    go_wp2
    go_ret
    exact HF.out _ _ rfl rfl
  · have b0 : ((k : Int) == 0) = false := by simp; omega
    go_wp2_with fail
    refine (pick_any B q (m + 1) _ _ hR (by omega) (by omega) (by omega)).mono ?_
    rintro e w2 ⟨j, hj, rfl, hR2, hW2⟩
    have HF : Hid (∀ e w', e = .returned (.string (ltr j)) → w2 = w' → DrewS (fun v => v.size ≤ 2) B q (m + 2) w e w') := hid fun e w' c1 c2 => DrewS.of (good := fun v => v.size ≤ 2) (hW.trans hW2) hR2 (show (ltr j).size ≤ 2 from (by decide : (1 : Nat) ≤ 2)) c1 c2
    have HJ : j < 13 := by omega
    clear hR hW hR2 hW2 h
    go_wp2_with (first | (go_at_call 116; (with_reducible refine (l2Letter_any j HJ _).mono ?_); rintro e w' ⟨rfl, rfl⟩))
    go_ret
    exact HF.out _ _ rfl rfl
end Go.Proofs.YtnhpjjbblegnaabDoor.C
