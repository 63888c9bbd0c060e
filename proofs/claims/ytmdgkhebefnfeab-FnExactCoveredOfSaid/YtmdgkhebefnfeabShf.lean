/- ShiftModel: all intervals of a plan moved by some points. -/
import Derived.Test.YtmdgkhebefnfeabIvs
import Derived.Deep.AppendLies
import Derived.Laws.AppendOwn
import Derived.IntWalk
namespace Go.Proofs.Ytmdgkhebefnfeab.C
open Go.RowKit
set_option linter.unusedVariables false
set_option linter.unusedSimpArgs false
theorem own_below8 {w w' : World} {base e size n : Nat} {v : Value} {xs : List Value} (h : w.ownsRow base e size v n xs) (hb : Below w.heap.size w w') : w'.ownsRow base e size v n xs :=
  h.kept (row := none) ⟨hb.os, hb.tape, hb.output, hb.size, fun k hk _ => hb.block k hk⟩ (by cases hv : v.ownBlock <;> simp)
def mvF (F : Nat → Int) (by' : Int) (i : Nat) : Int := wrap64 (F i + by')
def shN (n : Nat) (F T : Nat → Int) (d : Int) : Nat := if plV n (mvF F d) (mvF T d) then n else 0
theorem shN_on {n : Nat} {F T : Nat → Int} {d : Int} (h : plV n (mvF F d) (mvF T d) = true) : shN n F T d = n := by unfold shN; rw [h]; rfl
theorem shN_off {n : Nat} {F T : Nat → Int} {d : Int} (h : plV n (mvF F d) (mvF T d) = false) : shN n F T d = 0 := by unfold shN; rw [h]; rfl
theorem news_two (w : World) (x y : Value) (t : TypeId) : ∀ j u, [x, y][j]? = some u → (w.alloc (.cells #[x, y] t)).cell? ((⟨w.heap.size, 0, none⟩ : Addr).add j) = some u := by
  intro j u hj
  match j, hj with
  | 0, hj => simp at hj; subst hj; simp [Addr.add, go_sem]
  | 1, hj => simp at hj; subst hj; simp [Addr.add, go_sem]
theorem one_two {k : IntKind} {x y : Int} : ∀ u ∈ [Value.int k x, Value.int k y], u.oneCell' = true := by
  intro u hu; simp at hu; rcases hu with rfl | rfl <;> rfl
theorem mv_far {n : Nat} {F T : Nat → Int} {d : Int} (hw : (Lit.int .i64 d).wf = true) (h : plV n F T = true) (hd : btw (-2000000) d 2000000 = false) : plV n (mvF F d) (mvF T d) = false := by
  obtain ⟨⟨h1, h6⟩, hv⟩ := plV_iff.1 h
  unfold plV
  rw [alV_off (i := 0) (by omega), Bool.and_false]
  have h0 := hv 0 (by omega)
  rw [iv_iff] at h0
  simp only [btw, decide_eq_false_iff_not] at hd
  simp [Lit.wf, IntKind.min, IntKind.max, IntKind.signed, IntKind.bits] at hw
  cases hh : iv (mvF F d 0) (mvF T d 0)
  · rfl
  · exfalso
    rw [iv_iff] at hh
    simp only [mvF, wrap64] at hh
    omega
end Go.Proofs.Ytmdgkhebefnfeab.C
