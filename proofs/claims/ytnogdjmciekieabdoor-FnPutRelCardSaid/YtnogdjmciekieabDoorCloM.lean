/- The program's table of compositions, and what a third node leaves of a relation. The program: which node leaves less, all pairs, whether a network is closed. The program: TriangleRel, WhyTriangle, IsClosed. -/
import Derived.Test.YtnogdjmciekieabDoorCmpS
import Derived.Test.YtnogdjmciekieabDoorNetV
import Derived.Test.YtnogdjmciekieabDoorCloP
import Derived.Test.YtnogdjmciekieabDoorInts
import Derived.Test.YtnogdjmciekieabDoorCloA
import Derived.Deep.RegionHeld3
import Derived.Test.YtnogdjmciekieabDoorNetC
namespace Go.Proofs.YtnogdjmciekieabDoor.C
section
open Go.RowKit
set_option linter.unusedVariables false
set_option linter.unusedSimpArgs false
end
section
open Go.RowKit
set_option linter.unusedVariables false
set_option linter.unusedSimpArgs false
/-- a node leaves less -/
def whyP (R : Nat → Nat → Nat) (i k b : Nat) : Bool := triN R i k b != R i k
def whyO (R : Nat → Nat → Nat) (i k n : Nat) : Option Nat := (List.range n).find? (whyP R i k)
def whyN (R : Nat → Nat → Nat) (i k n : Nat) : Nat := (whyO R i k n).getD 0
def whyB (R : Nat → Nat → Nat) (i k n : Nat) : Bool := (whyO R i k n).isSome
theorem why_hit {R : Nat → Nat → Nat} {i k n b : Nat} (hb : b < n) (h : whyP R i k b = true) (H : ∀ x, x < b → whyP R i k x = false) : whyO R i k n = some b := by
  unfold whyO
  rw [List.find?_range_eq_some]
  exact ⟨h, List.mem_range.2 hb, fun j hj => by rw [H j hj]; rfl⟩
theorem why_miss {R : Nat → Nat → Nat} {i k n : Nat} (H : ∀ x, x < n → whyP R i k x = false) : whyO R i k n = none := by
  unfold whyO
  rw [List.find?_range_eq_none]
  exact fun j hj => by rw [H j hj]; rfl
theorem whyB_stb {R : Nat → Nat → Nat} {i k n : Nat} : whyB R i k n = false ↔ stb R i k n := by
  unfold whyB
  rw [Option.isSome_eq_false_iff, Option.isNone_iff_eq_none]
  unfold whyO
  rw [List.find?_range_eq_none]
  constructor
  · intro h b hb
    have := h b hb
    simpa [whyP] using this
  · intro h b hb
    have := h b hb
    simpa [whyP] using this
/-- the cells of pairs -/
def prC (l : List (Nat × Nat)) : List Value := l.flatMap fun p => [.int .i64 (p.1 : Int), .int .i64 (p.2 : Int)]
theorem prC_snoc (l : List (Nat × Nat)) (p : Nat × Nat) : prC (l ++ [p]) = prC l ++ [.int .i64 (p.1 : Int), .int .i64 (p.2 : Int)] := by simp [prC]
theorem prC_at : ∀ (l : List (Nat × Nat)) (j : Nat), j < l.length → (prC l)[2 * j]? = some (.int .i64 ((l.getD j (0, 0)).1 : Int)) ∧ (prC l)[2 * j + 1]? = some (.int .i64 ((l.getD j (0, 0)).2 : Int))
  | [], j, h => by simp at h
  | p :: l, 0, _ => by simp [prC]
  | p :: l, j + 1, h => by
    have := prC_at l j (by simpa using h)
    simp only [prC, List.flatMap_cons] at this ⊢
    rw [show 2 * (j + 1) = 2 * j + 1 + 1 by omega, show 2 * j + 1 + 1 + 1 = (2 * j + 1) + 1 + 1 by omega]
    simpa using this
/-- A slice of pairs. -/
def Ps (w : World) (v : Value) (l : List (Nat × Nat)) : Prop :=
  ∃ a cap, v = .slice a l.length cap ∧ ∀ j, j < l.length → ∃ g, a = some ⟨g, 0, none⟩ ∧ g < w.heap.size ∧ w.cell? ⟨g, j * 2, none⟩ = some (.int .i64 ((l.getD j (0, 0)).1 : Int)) ∧ w.cell? ⟨g, j * 2 + 1, none⟩ = some (.int .i64 ((l.getD j (0, 0)).2 : Int))
theorem Ps.of_own {w : World} {v : Value} {l : List (Nat × Nat)} {base : Nat} {T : TypeId} (h : w.ownsRow base T 2 v l.length (prC l)) : Ps w v l := by
  have h0 := h
  rcases h.2 with ⟨rfl, hn⟩ | ⟨g, cap, cur, rfl, hB, hg, h1, h2, h3, h4⟩
  · exact ⟨none, 0, by rw [hn], fun j hj => by omega⟩
  · refine ⟨some ⟨g, 0, none⟩, cap, rfl, fun j hj => ⟨g, rfl, (Array.getElem?_eq_some_iff.1 hg).1, ?_, ?_⟩⟩
    · have ha : ∀ j, (⟨g, 0, none⟩ : Addr).add j = ⟨g, j, none⟩ := fun j => by unfold Addr.add; split <;> simp_all
      have c1 := h0.cells (g := g) rfl (2 * j) _ (prC_at l j hj).1
      rw [ha] at c1
      rw [show j * 2 = 2 * j by omega]; exact c1
    · have ha : ∀ j, (⟨g, 0, none⟩ : Addr).add j = ⟨g, j, none⟩ := fun j => by unfold Addr.add; split <;> simp_all
      have c1 := h0.cells (g := g) rfl (2 * j + 1) _ (prC_at l j hj).2
      rw [ha] at c1
      rw [show j * 2 = 2 * j by omega]; exact c1
end
section
open Go.RowKit
set_option linter.unusedVariables false
set_option linter.unusedSimpArgs false
noncomputable def triI (z : Int) (s : ByteArray) (i k b : Int) : Int := if NV z s && hasB z i && hasB z k && hasB z b then (triN (mx z.toNat s) i.toNat k.toNat b.toNat : Nat) else -1
theorem triI_off {z : Int} {s : ByteArray} {i k b : Int} (h : (NV z s && hasB z i && hasB z k && hasB z b) = false) : triI z s i k b = -1 := by simp [triI, h]
theorem triI_in {n : Nat} {R : Nat → Nat → Nat} (h : OkR n R) {i k b : Nat} (hi : i < n) (hk : k < n) (hb : b < n) : triI n (netS n R) i k b = (triN R i k b : Nat) := by
  simp [triI, nv_net h, hasB_in hi, hasB_in hk, hasB_in hb, mx_net h]
noncomputable def whyI (z : Int) (s : ByteArray) (i k : Int) : Int := if NV z s && hasB z i && hasB z k then (match whyO (mx z.toNat s) i.toNat k.toNat z.toNat with | some b => (b : Int) | none => -1) else -2
theorem whyI_off {z : Int} {s : ByteArray} {i k : Int} (h : (NV z s && hasB z i && hasB z k) = false) : whyI z s i k = -2 := by simp [whyI, h]
theorem whyI_in {n : Nat} {R : Nat → Nat → Nat} (h : OkR n R) {i k : Nat} (hi : i < n) (hk : k < n) : whyI n (netS n R) i k = (match whyO R i k n with | some b => (b : Int) | none => -1) := by
  simp [whyI, nv_net h, hasB_in hi, hasB_in hk, mx_net h]
theorem whyI_yes {n : Nat} {R : Nat → Nat → Nat} (h : OkR n R) {i k : Nat} (hi : i < n) (hk : k < n) (hw : whyB R i k n = true) : whyI n (netS n R) i k = (whyN R i k n : Nat) := by
  rw [whyI_in h hi hk]
  unfold whyB at hw
  unfold whyN
  cases e : whyO R i k n with
  | none => rw [e] at hw; cases hw
  | some b => rfl
theorem whyI_none {n : Nat} {R : Nat → Nat → Nat} (h : OkR n R) {i k : Nat} (hi : i < n) (hk : k < n) (hw : whyB R i k n = false) : whyI n (netS n R) i k = -1 := by
  rw [whyI_in h hi hk]
  unfold whyB at hw
  cases e : whyO R i k n with
  | none => rfl
  | some b => rw [e] at hw; cases hw
/-- no node leaves less of a pair -/
noncomputable def clsB (n : Nat) (R : Nat → Nat → Nat) : Bool := !((edL n).any fun p => whyB R p.1 p.2 n)
noncomputable def clsI (z : Int) (s : ByteArray) : Bool := NV z s && clsB z.toNat (mx z.toNat s)
theorem clsI_no {z : Int} {s : ByteArray} (h : NV z s = false) : clsI z s = false := by simp [clsI, h]
theorem clsI_yes {n : Nat} {R : Nat → Nat → Nat} (h : OkR n R) : clsI n (netS n R) = clsB n R := by simp [clsI, nv_net h, mx_net h]
theorem clsB_iff {n : Nat} {R : Nat → Nat → Nat} : clsB n R = true ↔ Qt n R := by
  unfold clsB Qt
  rw [Bool.not_eq_true', List.any_eq_false]
  constructor
  · intro h p hp
    exact whyB_stb.1 (by simpa using h p hp)
  · intro h p hp
    rw [whyB_stb.2 (h p hp)]; simp
end
end Go.Proofs.YtnogdjmciekieabDoor.C
