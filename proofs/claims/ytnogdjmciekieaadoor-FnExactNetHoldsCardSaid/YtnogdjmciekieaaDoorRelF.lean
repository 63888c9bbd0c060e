/- The letters of a relation: the program's text and the model's. -/
import Derived.Test.YtnogdjmciekieaaDoorRelU
import Derived.Test.YtnogdjmciekieaaDoorBuilder
namespace Go.Proofs.YtnogdjmciekieaaDoor.C
open Go.RowKit
set_option linter.unusedVariables false
set_option linter.unusedSimpArgs false
theorem bytes_app (a b : List UInt8) : (⟨a.toArray⟩ : ByteArray) ++ ⟨b.toArray⟩ = ⟨(a ++ b).toArray⟩ := by
  apply ByteArray.ext
  simp [ByteArray.data_append]
theorem lts_step {n k : Nat} (h : n.testBit k = true) : (⟨(ltsF n k).toArray⟩ : ByteArray) ++ ltr k = ⟨(ltsF n (k + 1)).toArray⟩ := by
  rw [ltsF_hit h, ← bytes_app]; rfl
theorem ltsF_nil {n : Nat} : ∀ {k : Nat}, ltsF n k = [] ↔ ∀ j, j < k → n.testBit j = false
  | 0 => by simp [ltsF]
  | k + 1 => by
    cases h : n.testBit k
    · rw [ltsF_miss h, ltsF_nil]
      constructor
      · intro H j hj
        by_cases e : j = k
        · rw [e]; exact h
        · exact H j (by omega)
      · intro H j hj; exact H j (by omega)
    · rw [ltsF_hit h]
      constructor
      · intro H; simp at H
      · intro H; have := H k (by omega); rw [h] at this; cases this
theorem lts_zero {n : Nat} (hn : n < 8192) (h : ltsF n 13 = []) : n = 0 :=
  set_ext hn (by decide) fun j hj => by rw [ltsF_nil.1 h j hj]; simp
end Go.Proofs.YtnogdjmciekieaaDoor.C
