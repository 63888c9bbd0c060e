/- Slices of integers in the exact laws: comparing, marking, reading marks. -/
import Derived.Test.YtnogdjmciekieaaDoorDraw
namespace Go.Proofs.YtnogdjmciekieaaDoor.C
open Go.RowKit
set_option linter.unusedVariables false
set_option linter.unusedSimpArgs false
/-- A slice of n integers. -/
def Sl (w : World) (v : Value) (n : Nat) (f : Nat → Int) : Prop :=
  (n = 0 ∧ ∃ a c, v = .slice a 0 c) ∨ ∃ b cap, v = .slice (some ⟨b, 0, none⟩) n cap ∧ n ≤ cap ∧ ∀ i, i < n → w.cell? ⟨b, i, none⟩ = some (.int .i64 (f i))
theorem eqIntS_zero (a a' : Option Addr) (c c' : Nat) (w : World) :
    Calls Tryd.prog 20 #[.slice a 0 c, .slice a' 0 c'] w fun e w' => e = .returned (.bool true) ∧ ∃ m, w' = w.drewN m := by
  have HS := AllLt.start w; go_enter Tryd.func20, Tryd.ntmps20
  go_wp2
  go_rounds 1
  go_ret
  exact ⟨rfl, 0, rfl⟩
theorem eqIntS_row (b b' cap cap' n : Nat) (f : Nat → Int) (w : World) (hn : n ≤ 4611686018427387904) (h1 : n ≤ cap) (h2 : n ≤ cap') (hc : ∀ i, i < n → w.cell? ⟨b, i, none⟩ = some (.int .i64 (f i))) (hc' : ∀ i, i < n → w.cell? ⟨b', i, none⟩ = some (.int .i64 (f i))) :
    Calls Tryd.prog 20 #[.slice (some ⟨b, 0, none⟩) n cap, .slice (some ⟨b', 0, none⟩) n cap'] w fun e w' => e = .returned (.bool true) ∧ ∃ m, w' = w.drewN m := by
  have HC := hid hc
  have HD := hid hc'
  clear hc hc'
  have HS := AllLt.start w; go_enter Tryd.func20, Tryd.ntmps20
  go_wp2
  go_loopw [5] (fun v wr => ∃ k : Nat, k ≤ n ∧ v = .int .i64 k ∧ ∃ m, wr = w.drewN m) (fun v _ => n - (intOf v).toNat)
  case atStart => exact ⟨0, by omega, rfl, 0, rfl⟩
  case round =>
    obtain ⟨k, hk, rfl, m, rfl⟩ := hrel
    by_cases hlt : k < n
    · have c1 : ∀ m, (w.drewN m).cell? ⟨b, k, none⟩ = some (.int .i64 (f k)) := fun _ => HC.out k hlt
      have c2 : ∀ m, (w.drewN m).cell? ⟨b', k, none⟩ = some (.int .i64 (f k)) := fun _ => HD.out k hlt
      have c3 := c1 0
      have c4 := c2 0
      have hdi : decide ((k : Int) < (n : Int)) = true := by simp; omega
      have hdj : decide (k < n) = true := by simp; omega
      go_wp2
      go_quiet (fail)
      go_wp2
      go_roundw
      case rel => exact ⟨k + 1, by omega, by go_num, _, rfl⟩
      case measure => simp [intOf]; omega
    · obtain rfl : k = n := by omega
      go_wp2
      go_ret
      exact ⟨rfl, m, rfl⟩
theorem eqIntS_same (v v' : Value) (n : Nat) (f : Nat → Int) (w : World) (hn : n ≤ 4611686018427387904) (h : Sl w v n f) (h' : Sl w v' n f) :
    Calls Tryd.prog 20 #[v, v'] w fun e w' => e = .returned (.bool true) ∧ ∃ m, w' = w.drewN m := by
  by_cases hz : n = 0
  · obtain ⟨a, c, rfl⟩ : ∃ a c, v = .slice a 0 c := by
      rcases h with ⟨_, a, c, rfl⟩ | ⟨b, cap, rfl, _⟩
      · exact ⟨_, _, rfl⟩
      · exact ⟨_, _, by rw [hz]⟩
    obtain ⟨a', c', rfl⟩ : ∃ a c, v' = .slice a 0 c := by
      rcases h' with ⟨_, a, c, rfl⟩ | ⟨b, cap, rfl, _⟩
      · exact ⟨_, _, rfl⟩
      · exact ⟨_, _, by rw [hz]⟩
    exact eqIntS_zero _ _ _ _ _
  · rcases h with ⟨h0, _⟩ | ⟨b, cap, rfl, h1, h2⟩
    · exact absurd h0 hz
    · rcases h' with ⟨h0, _⟩ | ⟨b', cap', rfl, h1', h2'⟩
      · exact absurd h0 hz
      · exact eqIntS_row b b' cap cap' n f w hn h1 h1' h2 h2'
end Go.Proofs.YtnogdjmciekieaaDoor.C
