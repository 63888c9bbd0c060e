/- Relations with a name: the model's, and the exact law. -/
import Derived.Test.YtnhpjjbblegnaabDoorPrsS
namespace Go.Proofs.YtnhpjjbblegnaabDoor.C
open Go.RowKit
set_option linter.unusedVariables false
set_option linter.unusedSimpArgs false
set_option maxHeartbeats 2000000 in
theorem sNamedRel_any (s : ByteArray) (w : World) :
    Calls Tryd.prog 57 #[.string s] w fun e w' => e = .returned (.tuple #[.int .i64 (nmI s).1, .bool (nmI s).2]) ∧ w = w' := by
  rcases nm_cases s with rfl | rfl | rfl | rfl | rfl | rfl | rfl | rfl | ⟨q0, q1, q2, q3, q4, q5, q6, q7, hr⟩
  · have HR := hid (show nmI ⟨#[97, 108, 108]⟩ = (8191, true) by decide +kernel)
    have HS := AllLt.start w; go_enter Tryd.func57, Tryd.ntmps57
    go_wp2_with (first | (go_at_call 66; (with_reducible refine (sParseRel_any _ _ (by decide)).mono ?_); rintro e w' ⟨rfl, rfl⟩))
    go_ret2
    exact ⟨by rw [HR.out]; rfl, rfl⟩
  · have HR := hid (show nmI ⟨#[110, 111, 110, 101]⟩ = (0, true) by decide +kernel)
    have HS := AllLt.start w; go_enter Tryd.func57, Tryd.ntmps57
    go_wp2_with (first | (go_at_call 66; (with_reducible refine (sParseRel_any _ _ (by decide)).mono ?_); rintro e w' ⟨rfl, rfl⟩))
    go_ret2
    exact ⟨by rw [HR.out]; rfl, rfl⟩
  · have HR := hid (show nmI ⟨#[97, 112, 97, 114, 116]⟩ = prs ⟨#[98, 109, 77, 66]⟩ by decide +kernel)
    have HS := AllLt.start w; go_enter Tryd.func57, Tryd.ntmps57
    go_wp2_with (first | (go_at_call 66; (with_reducible refine (sParseRel_any _ _ (by decide)).mono ?_); rintro e w' ⟨rfl, rfl⟩))
    go_ret2
    exact ⟨by rw [HR.out]; rfl, rfl⟩
  · have HR := hid (show nmI ⟨#[99, 111, 109, 109, 111, 110]⟩ = prs ⟨#[111, 115, 100, 102, 101, 70, 68, 83, 79]⟩ by decide +kernel)
    have HS := AllLt.start w; go_enter Tryd.func57, Tryd.ntmps57
    go_wp2_with (first | (go_at_call 66; (with_reducible refine (sParseRel_any _ _ (by decide)).mono ?_); rintro e w' ⟨rfl, rfl⟩))
    go_ret2
    exact ⟨by rw [HR.out]; rfl, rfl⟩
  · have HR := hid (show nmI ⟨#[119, 105, 116, 104, 105, 110]⟩ = prs ⟨#[115, 100, 102, 101]⟩ by decide +kernel)
    have HS := AllLt.start w; go_enter Tryd.func57, Tryd.ntmps57
    go_wp2_with (first | (go_at_call 66; (with_reducible refine (sParseRel_any _ _ (by decide)).mono ?_); rintro e w' ⟨rfl, rfl⟩))
    go_ret2
    exact ⟨by rw [HR.out]; rfl, rfl⟩
  · have HR := hid (show nmI ⟨#[98, 101, 103, 105, 110, 115]⟩ = prs ⟨#[115, 101, 83]⟩ by decide +kernel)
    have HS := AllLt.start w; go_enter Tryd.func57, Tryd.ntmps57
    go_wp2_with (first | (go_at_call 66; (with_reducible refine (sParseRel_any _ _ (by decide)).mono ?_); rintro e w' ⟨rfl, rfl⟩))
    go_ret2
    exact ⟨by rw [HR.out]; rfl, rfl⟩
  · have HR := hid (show nmI ⟨#[101, 110, 100, 115]⟩ = prs ⟨#[102, 101, 70]⟩ by decide +kernel)
    have HS := AllLt.start w; go_enter Tryd.func57, Tryd.ntmps57
    go_wp2_with (first | (go_at_call 66; (with_reducible refine (sParseRel_any _ _ (by decide)).mono ?_); rintro e w' ⟨rfl, rfl⟩))
    go_ret2
    exact ⟨by rw [HR.out]; rfl, rfl⟩
  · have HR := hid (show nmI ⟨#[101, 97, 114, 108, 105, 101, 114]⟩ = prs ⟨#[98, 109, 111, 70, 68]⟩ by decide +kernel)
    have HS := AllLt.start w; go_enter Tryd.func57, Tryd.ntmps57
    go_wp2_with (first | (go_at_call 66; (with_reducible refine (sParseRel_any _ _ (by decide)).mono ?_); rintro e w' ⟨rfl, rfl⟩))
    go_ret2
    exact ⟨by rw [HR.out]; rfl, rfl⟩
  · have HR := hid hr
    have b0 := same_f q0
    have b1 := same_f q1
    have b2 := same_f q2
    have b3 := same_f q3
    have b4 := same_f q4
    have b5 := same_f q5
    have b6 := same_f q6
    have b7 := same_f q7
    rw [show (⟨#[97, 108, 108]⟩ : ByteArray).toList = [97, 108, 108] by rw [ByteArray.toList_eq]] at b0
    rw [show (⟨#[110, 111, 110, 101]⟩ : ByteArray).toList = [110, 111, 110, 101] by rw [ByteArray.toList_eq]] at b1
    rw [show (⟨#[97, 112, 97, 114, 116]⟩ : ByteArray).toList = [97, 112, 97, 114, 116] by rw [ByteArray.toList_eq]] at b2
    rw [show (⟨#[99, 111, 109, 109, 111, 110]⟩ : ByteArray).toList = [99, 111, 109, 109, 111, 110] by rw [ByteArray.toList_eq]] at b3
    rw [show (⟨#[119, 105, 116, 104, 105, 110]⟩ : ByteArray).toList = [119, 105, 116, 104, 105, 110] by rw [ByteArray.toList_eq]] at b4
    rw [show (⟨#[98, 101, 103, 105, 110, 115]⟩ : ByteArray).toList = [98, 101, 103, 105, 110, 115] by rw [ByteArray.toList_eq]] at b5
    rw [show (⟨#[101, 110, 100, 115]⟩ : ByteArray).toList = [101, 110, 100, 115] by rw [ByteArray.toList_eq]] at b6
    rw [show (⟨#[101, 97, 114, 108, 105, 101, 114]⟩ : ByteArray).toList = [101, 97, 114, 108, 105, 101, 114] by rw [ByteArray.toList_eq]] at b7
    clear q0 q1 q2 q3 q4 q5 q6 q7 hr
    have HS := AllLt.start w; go_enter Tryd.func57, Tryd.ntmps57
    go_wp2
    go_ret2
    exact ⟨by rw [HR.out]; rfl, rfl⟩
end Go.Proofs.YtnhpjjbblegnaabDoor.C
