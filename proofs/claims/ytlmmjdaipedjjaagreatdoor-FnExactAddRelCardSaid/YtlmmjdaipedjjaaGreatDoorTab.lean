/- Walks over chapter 2's table of basic relations, for the program; the model's words for the same. -/
import Derived.Test.YtlmmjdaipedjjaaGreatDoorTwo
import Derived.Deep.QuietTactic
import Derived.BigQuiet
namespace Go.Proofs.YtlmmjdaipedjjaaGreatDoor.C
open Go.RowKit
set_option linter.unusedVariables false
set_option linter.unusedSimpArgs false

theorem below_drewN (B : Nat) (w : World) (n : Nat) : Below B w (w.drewN n) := ⟨rfl, rfl, rfl, Nat.le_refl _, fun _ _ => rfl⟩
theorem below_drewN' {B : Nat} {w w' : World} (h : Below B w w') (n : Nat) : Below B w (w'.drewN n) := h.trans (below_drewN B w' n)
theorem below_drew' {B : Nat} {w w' : World} (h : Below B w w') : Below B w w'.drew := h.trans (below_drewN B w' 1)
theorem same_t {a b : ByteArray} (h : a = b) : (a.toList == b.toList) = true := by rw [h]; simp
theorem same_f {a b : ByteArray} (h : ¬ a = b) : (a.toList == b.toList) = false := by
  rw [beq_eq_false_iff_ne]
  intro e
  rw [ByteArray.toList_eq, ByteArray.toList_eq] at e
  exact h (ByteArray.ext (Array.ext' e))
/-- The table of the basic relations lies as the program's text lays it. -/
def TBc : Array Value := #[.string ⟨#[98]⟩, .int .i64 0, .int .i64 0, .string ⟨#[109]⟩, .int .i64 0, .int .i64 1, .string ⟨#[111]⟩, .int .i64 0, .int .i64 2, .string ⟨#[115]⟩, .int .i64 1, .int .i64 2, .string ⟨#[100]⟩, .int .i64 2, .int .i64 2, .string ⟨#[102]⟩, .int .i64 2, .int .i64 3, .string ⟨#[101]⟩, .int .i64 1, .int .i64 3,
  .string ⟨#[70]⟩, .int .i64 0, .int .i64 3, .string ⟨#[68]⟩, .int .i64 0, .int .i64 4, .string ⟨#[83]⟩, .int .i64 1, .int .i64 4, .string ⟨#[79]⟩, .int .i64 2, .int .i64 4, .string ⟨#[77]⟩, .int .i64 3, .int .i64 4, .string ⟨#[66]⟩, .int .i64 4, .int .i64 4]
def TB (w : World) : Prop := Tb w 0 TBc
theorem TB.below {w w' : World} (h : TB w) (hb : Below w.heap.size w w') : TB w' := Tb.below h hb (Tb.lt h)
theorem TB.drewN {w : World} (h : TB w) (n : Nat) : TB (w.drewN n) := h
theorem tb_l {w : World} (h : TB w) : ∀ k : Nat, k < 13 → w.cell? ⟨0, 3 * k, none⟩ = some (.string (ltr k)) := fun k hk => by
  rcases nat13 hk with rfl | rfl | rfl | rfl | rfl | rfl | rfl | rfl | rfl | rfl | rfl | rfl | rfl <;> exact Tb.cell h _ _ rfl
theorem tb_f {w : World} (h : TB w) : ∀ k : Nat, k < 13 → w.cell? ⟨0, 3 * k + 1, none⟩ = some (.int .i64 (zf k)) := fun k hk => by
  rcases nat13 hk with rfl | rfl | rfl | rfl | rfl | rfl | rfl | rfl | rfl | rfl | rfl | rfl | rfl <;> exact Tb.cell h _ _ rfl
theorem tb_t {w : World} (h : TB w) : ∀ k : Nat, k < 13 → w.cell? ⟨0, 3 * k + 2, none⟩ = some (.int .i64 (zt k)) := fun k hk => by
  rcases nat13 hk with rfl | rfl | rfl | rfl | rfl | rfl | rfl | rfl | rfl | rfl | rfl | rfl | rfl <;> exact Tb.cell h _ _ rfl
theorem zones_any (k : Nat) (hk : k < 13) (w : World) (hT : TB w) :
    Calls Tryz.prog 81 #[.int .i64 k] w fun e w' => e = .returned (.tuple #[.int .i64 (zf k), .int .i64 (zt k)]) ∧ ∃ n, w' = w.drewN n := by
  have hf := tb_f hT k hk
  have ht := tb_t hT k hk
  clear hT
  rcases nat13 hk with rfl | rfl | rfl | rfl | rfl | rfl | rfl | rfl | rfl | rfl | rfl | rfl | rfl
  all_goals
    clear hk
    have HS := AllLt.start w; go_enter Tryz.func81, Tryz.ntmps81
    go_wp2
    go_quiet (fail)
    go_wp2
    go_ret2
    exact ⟨rfl, _, rfl⟩
end Go.Proofs.YtlmmjdaipedjjaaGreatDoor.C
