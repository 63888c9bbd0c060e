/- Slices of integers in the exact laws: comparing, marking, reading marks. -/
import Derived.Test.YtnogdjmciekieaaDraw
namespace Go.Proofs.Ytnogdjmciekieaa.C
open Go.RowKit
set_option linter.unusedVariables false
set_option linter.unusedSimpArgs false
/-- A slice of n integers. -/
def Sl (w : World) (v : Value) (n : Nat) (f : Nat → Int) : Prop :=
  (n = 0 ∧ ∃ a c, v = .slice a 0 c) ∨ ∃ b cap, v = .slice (some ⟨b, 0, none⟩) n cap ∧ n ≤ cap ∧ ∀ i, i < n → w.cell? ⟨b, i, none⟩ = some (.int .i64 (f i))
theorem eqIntS_zero (a a' : Option Addr) (c c' : Nat) (w : World) :
    Calls Try.prog 20 #[.slice a 0 c, .slice a' 0 c'] w fun e w' => e = .returned (.bool true) ∧ ∃ m, w' = w.drewN m := by
  have HS := AllLt.start w; go_enter Try.func20, Try.ntmps20
  go_wp2
  go_rounds 1
  go_ret
  exact ⟨rfl, 0, rfl⟩
theorem eqIntS_row (b b' cap cap' n : Nat) (f : Nat → Int) (w : World) (hn : n ≤ 4611686018427387904) (h1 : n ≤ cap) (h2 : n ≤ cap') (hc : ∀ i, i < n → w.cell? ⟨b, i, none⟩ = some (.int .i64 (f i))) (hc' : ∀ i, i < n → w.cell? ⟨b', i, none⟩ = some (.int .i64 (f i))) :
    Calls Try.prog 20 #[.slice (some ⟨b, 0, none⟩) n cap, .slice (some ⟨b', 0, none⟩) n cap'] w fun e w' => e = .returned (.bool true) ∧ ∃ m, w' = w.drewN m := by
  have HC := hid hc
  have HD := hid hc'
  clear hc hc'
  have HS := AllLt.start w; go_enter Try.func20, Try.ntmps20
  go_wp2
  go_loopw [5] (fun v wr => ∃ k : Nat, k ≤ n ∧ v = .int .i64 k ∧ ∃ m, wr = w.drewN m) (fun v _ => n - (intOf v).toNat)
  case atStart => exact ⟨0, by omega, rfl, 0, rfl⟩
  case round =>
    obtain ⟨k, hk, rfl, m, rfl⟩ := hrel
    by_cases hlt : k < n
    · have c1 : ∀ m, (w.drewN m).cell? ⟨b, k, none⟩ = some (.int .i64 (f k)) := fun _ => HC.out k hlt
      have c2 : ∀ m, (w.drewN m).cell? ⟨b', k, none⟩ = some (.int .i64 (f k)) := fun _ => HD.out k hlt
      have c3 := c1 0
      have c4 := c2 0
      have hdi : decide ((k : Int) < (n : Int)) = true := by simp; omega
      have hdj : decide (k < n) = true := by simp; omega
      go_wp2
      go_quiet (fail)
      go_wp2
      go_roundw
      case rel => exact ⟨k + 1, by omega, by go_num, _, rfl⟩
      case measure => simp [intOf]; omega
    · obtain rfl : k = n := by omega
      go_wp2
      go_ret
      exact ⟨rfl, m, rfl⟩
theorem eqIntS_same (v v' : Value) (n : Nat) (f : Nat → Int) (w : World) (hn : n ≤ 4611686018427387904) (h : Sl w v n f) (h' : Sl w v' n f) :
    Calls Try.prog 20 #[v, v'] w fun e w' => e = .returned (.bool true) ∧ ∃ m, w' = w.drewN m := by
  by_cases hz : n = 0
  · obtain ⟨a, c, rfl⟩ : ∃ a c, v = .slice a 0 c := by
      rcases h with ⟨_, a, c, rfl⟩ | ⟨b, cap, rfl, _⟩
      · exact ⟨_, _, rfl⟩
      · exact ⟨_, _, by rw [hz]⟩
    obtain ⟨a', c', rfl⟩ : ∃ a c, v' = .slice a 0 c := by
      rcases h' with ⟨_, a, c, rfl⟩ | ⟨b, cap, rfl, _⟩
      · exact ⟨_, _, rfl⟩
      · exact ⟨_, _, by rw [hz]⟩
    exact eqIntS_zero _ _ _ _ _
  · rcases h with ⟨h0, _⟩ | ⟨b, cap, rfl, h1, h2⟩
    · exact absurd h0 hz
    · rcases h' with ⟨h0, _⟩ | ⟨b', cap', rfl, h1', h2'⟩
      · exact absurd h0 hz
      · exact eqIntS_row b b' cap cap' n f w hn h1 h1' h2 h2'
theorem heldIntS_zero (a : Option Addr) (c : Nat) (k : Int) (w : World) :
    Calls Try.prog 22 #[.slice a 0 c, .int .i64 k] w fun e w' => e = .returned (.int .i64 k) ∧ w = w' := by
  have HS := AllLt.start w; go_enter Try.func22, Try.ntmps22
  go_wp2
  go_rounds 1
  go_ret
  exact ⟨rfl, rfl⟩
theorem heldIntS_row (b cap n : Nat) (k : Nat) (w : World) (hn : n + k ≤ 4611686018427387904) (h1 : n ≤ cap) (hc : ∀ i, i < n → w.cell? ⟨b, i, none⟩ = some (.int .i64 ((k + i : Nat) : Int))) :
    Calls Try.prog 22 #[.slice (some ⟨b, 0, none⟩) n cap, .int .i64 k] w fun e w' => e = .returned (.int .i64 ((k + n : Nat) : Int)) ∧ w = w' := by
  have HC := hid hc
  clear hc
  have HS := AllLt.start w; go_enter Try.func22, Try.ntmps22
  go_wp2
  go_loop [5, 1] (fun v u => ∃ i : Nat, i ≤ n ∧ v = .int .i64 i ∧ u = .int .i64 ((k + i : Nat) : Int)) (fun v _ => n - (intOf v).toNat)
  case atStart => exact ⟨0, by omega, rfl, rfl⟩
  case round =>
    obtain ⟨i, hi, rfl, rfl⟩ := hrel
    by_cases hlt : i < n
    · have c1 := HC.out i hlt
      have hdi : decide ((i : Int) < (n : Int)) = true := by simp; omega
      have hdj : decide (i < n) = true := by simp; omega
      go_wp2
      go_round
      case rel => exact ⟨i + 1, by omega, by go_num, by go_num⟩
      case measure => simp [intOf]; omega
    · obtain rfl : i = n := by omega
      go_wp2
      go_ret
      exact ⟨rfl, rfl⟩
/-- Block b after the first i of n cells have been marked from k on. -/
structure Mk (b : Nat) (k n i : Nat) (w w' : World) : Prop where
  wr : Wr b w w'
  done : ∀ j, j < i → w'.cell? ⟨b, j, none⟩ = some (.int .i64 ((k + j : Nat) : Int))
  rest : ∀ j, i ≤ j → j < n → ∃ v, w'.cell? ⟨b, j, none⟩ = some v
  free : ∀ j, j < n → w'.frozen? ⟨b, j, none⟩ = false
theorem Mk.step {b k n i : Nat} {w w' : World} (h : Mk b k n i w w') (hi : i < n) : Mk b k n (i + 1) w (w'.setCell ⟨b, i, none⟩ (.int .i64 ((k + i : Nat) : Int))) := by
  obtain ⟨v, hv⟩ := h.rest i (Nat.le_refl _) hi
  refine ⟨h.wr.trans (Wr.setCell _ _ _ _), fun j hj => ?_, fun j h1 h2 => ?_, fun j hj => ?_⟩
  · by_cases e : j = i
    · subst e; simp [go_sem, hv]
    · have := h.done j (by omega)
      simp [go_sem, e, this, Ne.symm e]
  · obtain ⟨u, hu⟩ := h.rest j (by omega) h2
    have e : ¬ j = i := by omega
    exact ⟨u, by simp [go_sem, e, hu, Ne.symm e]⟩
  · have := h.free j hj
    simpa [go_sem] using this
theorem markIntS_zero (a : Option Addr) (c : Nat) (k : Int) (w : World) :
    Calls Try.prog 21 #[.slice a 0 c, .int .i64 k] w fun e w' => e = .returned (.int .i64 k) ∧ w = w' := by
  have HS := AllLt.start w; go_enter Try.func21, Try.ntmps21
  go_wp2
  go_rounds 1
  go_ret
  exact ⟨rfl, rfl⟩
theorem markIntS_row (b cap n : Nat) (k : Nat) (w : World) (hn : n + k ≤ 4611686018427387904) (h1 : n ≤ cap) (hc : ∀ i, i < n → ∃ v, w.cell? ⟨b, i, none⟩ = some v) (hf : ∀ j, j < n → w.frozen? ⟨b, j, none⟩ = false) :
    Calls Try.prog 21 #[.slice (some ⟨b, 0, none⟩) n cap, .int .i64 k] w fun e w' => e = .returned (.int .i64 ((k + n : Nat) : Int)) ∧ Mk b k n n w w' := by
  have HM : Hid (Mk b k n 0 w w) := hid ⟨Wr.refl _ _, fun j hj => by omega, fun j _ h => hc j h, hf⟩
  clear hc hf
  have HS := AllLt.start w; go_enter Try.func21, Try.ntmps21
  go_wp2
  go_loopw [5, 1] (fun v u wr => ∃ i : Nat, i ≤ n ∧ v = .int .i64 i ∧ u = .int .i64 ((k + i : Nat) : Int) ∧ Hid (Mk b k n i w wr)) (fun v _ _ => n - (intOf v).toNat)
  case atStart => exact ⟨0, by omega, rfl, rfl, HM⟩
  case round =>
    obtain ⟨i, hi, rfl, rfl, HW⟩ := hrel
    clear HM HS
    by_cases hlt : i < n
    · obtain ⟨v, hv⟩ := HW.out.rest i (Nat.le_refl _) hlt
      have hfr := HW.out.free i hlt
      have hdi : decide ((i : Int) < (n : Int)) = true := by simp; omega
      have hdj : decide (i < n) = true := by simp; omega
      have HN := hid (HW.out.step hlt)
      clear HW
      go_wp2
      go_roundw
      case rel => exact ⟨i + 1, by omega, by go_num, by go_num, by first | exact HN | (have := HN.out; simpa using hid this)⟩
      case measure => simp [intOf]; omega
    · obtain rfl : i = n := by omega
      go_wp2
      go_ret
      exact ⟨rfl, HW.out⟩
end Go.Proofs.Ytnogdjmciekieaa.C
