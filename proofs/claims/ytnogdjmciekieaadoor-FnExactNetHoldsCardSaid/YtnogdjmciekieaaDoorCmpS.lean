/- Composition in the model's words, by its table; the exact laws of composed basic relations and relations. -/
import Derived.Test.YtnogdjmciekieaaDoorTbl
import Derived.Test.YtnogdjmciekieaaDoorCmpW
namespace Go.Proofs.YtnogdjmciekieaaDoor.C
open Go.RowKit
set_option linter.unusedVariables false
set_option linter.unusedSimpArgs false
/-- The table lies at block o. -/
def TC (w : World) (o : Nat) : Prop := ∀ x, x < 169 → w.cell? ⟨o, x, none⟩ = some (.int .i64 ((cmL.getD x 0 : Nat) : Int))
theorem TC.of {w : World} {o : Nat} (h : Tab w o (tabO 0 few)) : TC w o := fun x hx => by rw [h.cell hx, tab_cell hx]
set_option maxHeartbeats 2000000 in
set_option maxRecDepth 100000 in
theorem l3Compose_any (o r s : Nat) (hr : r < 8192) (hs : s < 8192) (w : World) (hC : TC w o) :
    Calls Tryd.prog 85 #[.slice (some ⟨o, 0, none⟩) 169 169, .int .i64 r, .int .i64 s] w fun e w' => e = .returned (.int .i64 ((cmN r s : Nat) : Int)) ∧ w = w' := by
  have HC := hid hC
  clear hC
  have HS := AllLt.start w; go_enter Tryd.func85, Tryd.ntmps85
  go_wp2
  go_loop [7, 8] (fun acc v => ∃ i : Nat, i ≤ 13 ∧ v = .int .i64 i ∧ acc = .int .i64 ((cmF r s i : Nat) : Int)) (fun _ v => 13 - (intOf v).toNat)
  case atStart => exact ⟨0, by omega, rfl, rfl⟩
  case round =>
    obtain ⟨i, hi, rfl, rfl⟩ := hrel
    clear HS
    by_cases h13 : i < 13
    · have hdi : decide ((i : Int) < 13) = true := by simp; omega
      go_wp2
      go_loop [7, 9] (fun acc v => ∃ k : Nat, k ≤ 13 ∧ v = .int .i64 k ∧ acc = .int .i64 ((cmF r s i ||| cmI r s i k : Nat) : Int)) (fun _ v => 13 - (intOf v).toNat)
      case atStart => exact ⟨0, by omega, rfl, by simp [cmI, orN]⟩
      case round =>
        obtain ⟨k, hk, rfl, rfl⟩ := hrel
        by_cases k13 : k < 13
        · have hdk : decide ((k : Int) < 13) = true := by simp; omega
          cases h1 : r.testBit i
          · have HF := hid (show cmF r s (i + 1) = cmF r s i ||| cmI r s i k by rw [cmI_miss1 h1]; simp [cmF, orN, cmI_miss1 h1])
            have H1 := hid h1
            clear h1
            go_wp2_with (first | (go_at_call 40; (with_reducible refine (l3Has_any r i hr h13 _).mono ?_); rintro e w' ⟨rfl, rfl⟩; rw [H1.out]))
            go_round
            case rel => exact ⟨i + 1, by omega, by go_num, by rw [HF.out]⟩
            case measure => simp [intOf]; omega
          · cases h2 : s.testBit k
            · have HF := hid (show cmF r s i ||| cmI r s i (k + 1) = cmF r s i ||| cmI r s i k by rw [cmI_miss2 h2])
              have H1 := hid h1
              have H2 := hid h2
              clear h1 h2
              go_wp2_with (first | (go_at_call 40; (with_reducible refine (l3Has_any r i hr h13 _).mono ?_); rintro e w' ⟨rfl, rfl⟩; rw [H1.out]) | (go_at_call 40; (with_reducible refine (l3Has_any s k hs k13 _).mono ?_); rintro e w' ⟨rfl, rfl⟩; rw [H2.out]))
              go_round
              case rel => exact ⟨k + 1, by omega, by go_num, by rw [HF.out]⟩
              case measure => simp [intOf]; omega
            · have HF := hid ((i64_or _ _ (or_lt (cmF_lt (r := r) (s := s) hi) (cmI_lt (r := r) (s := s) h13 hk)) (cmT_lt h13 k13)).trans (congrArg _ (show _ = cmF r s i ||| cmI r s i (k + 1) by rw [cmI_hit h1 h2, Nat.or_assoc])))
              have H1 := hid h1
              have H2 := hid h2
              have hx : 13 * i + k < 169 := by omega
              have hb1 : (i : Int) < 13 := by omega
              have hb2 : (k : Int) < 13 := by omega
              have hc0 : (0 : Int) ≤ 13 * (i : Int) + (k : Int) := by omega
              have hc1 : 13 * (i : Int) + (k : Int) < 169 := by omega
              have c0 : w.cell? ⟨o, 13 * i + k, none⟩ = some (.int .i64 ((cmT i k : Nat) : Int)) := HC.out _ hx
              clear h1 h2
              go_wp2_with (first | (go_at_call 40; (with_reducible refine (l3Has_any r i hr h13 _).mono ?_); rintro e w' ⟨rfl, rfl⟩; rw [H1.out]) | (go_at_call 40; (with_reducible refine (l3Has_any s k hs k13 _).mono ?_); rintro e w' ⟨rfl, rfl⟩; rw [H2.out]))
              go_round
              case rel => exact ⟨k + 1, by omega, by go_num, ret_val HF.out⟩
              case measure => simp [intOf]; omega
        · obtain rfl : k = 13 := by omega
          have hdk : decide (((13 : Nat) : Int) < 13) = false := by simp
          go_wp2
          go_round
          case rel => exact ⟨i + 1, by omega, by go_num, rfl⟩
          case measure => simp [intOf]; omega
    · obtain rfl : i = 13 := by omega
      have hdi : decide (((13 : Nat) : Int) < 13) = false := by simp
      go_wp2
      go_ret
      exact ⟨rfl, rfl⟩
end Go.Proofs.YtnogdjmciekieaaDoor.C
