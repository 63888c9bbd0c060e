/- The ends of intervals without those that come again. -/
import Derived.Test.YtmdgkhebefnfeabSrf
import Derived.Lib.SliceRun
namespace Go.Proofs.Ytmdgkhebefnfeab.C
open Go.RowKit
set_option linter.unusedVariables false
set_option linter.unusedSimpArgs false
/-- the first m of g stand, each once, as the first k of h; what lies from k on has not turned -/
structure Cmi (g h : Nat → Int) (n m k : Nat) : Prop where
  km : k + 1 ≤ m
  kp : 0 < k
  up : UpS h k
  mem : ∀ x, In h k x ↔ In g m x
  last : h (k - 1) = g (m - 1)
  rest : ∀ i, k ≤ i → h i = g i
theorem in_succ {f : Nat → Int} {m : Nat} {x : Int} : In f (m + 1) x ↔ In f m x ∨ f m = x := by
  constructor
  · rintro ⟨i, hi, rfl⟩
    by_cases e : i = m
    · exact .inr (by rw [e])
    · exact .inl ⟨i, by omega, rfl⟩
  · rintro (⟨i, hi, rfl⟩ | rfl)
    · exact ⟨i, by omega, rfl⟩
    · exact ⟨m, by omega, rfl⟩
theorem Cmi.start {g : Nat → Int} {n k : Nat} (hk : 0 < k) (hU : UpS g k) (he : g k = g (k - 1)) : Cmi g g n (k + 1) k where
  km := Nat.le_refl _
  kp := hk
  up := hU
  mem := fun x => by
    rw [in_succ]
    constructor
    · exact .inl
    · rintro (h | rfl)
      · exact h
      · exact ⟨k - 1, by omega, he.symm⟩
  last := he.symm
  rest := fun _ _ => rfl
theorem Cmi.skip {g h : Nat → Int} {n m k : Nat} (hC : Cmi g h n m k) (he : g m = g (m - 1)) : Cmi g h n (m + 1) k where
  km := by have := hC.km; omega
  kp := hC.kp
  up := hC.up
  mem := fun x => by
    have hm : 0 < m := by have := hC.km; omega
    rw [in_succ, hC.mem]
    constructor
    · exact .inl
    · rintro (h | rfl)
      · exact h
      · exact ⟨m - 1, by omega, he.symm⟩
  last := by rw [hC.last]; exact he.symm
  rest := hC.rest
def putF (h : Nat → Int) (k : Nat) (x : Int) : Nat → Int := fun i => if i = k then x else h i
theorem Cmi.keep {g h : Nat → Int} {n m k : Nat} (hC : Cmi g h n m k) (hU : Up g n) (hm : m < n) (hne : ¬ g m = g (m - 1)) : Cmi g (putF h k (g m)) n (m + 1) (k + 1) where
  km := by have := hC.km; omega
  kp := by omega
  up := fun p q h1 h2 => by
    have hkp := hC.kp
    have hkm := hC.km
    have e1 : putF h k (g m) p = h p := if_neg (by omega)
    rw [e1]
    by_cases e : q = k
    · subst e
      have e2 : putF h q (g m) q = g m := if_pos rfl
      rw [e2]
      have hlt : g (m - 1) < g m := by
        have := hU (m - 1) m (by omega) hm
        omega
      by_cases ep : p = q - 1
      · rw [ep, hC.last]; exact hlt
      · have := hC.up p (q - 1) (by omega) (by omega)
        rw [hC.last] at this; omega
    · have e2 : putF h k (g m) q = h q := if_neg e
      rw [e2]; exact hC.up p q h1 (by omega)
  mem := fun x => by
    rw [in_succ, in_succ, ← hC.mem]
    have e2 : putF h k (g m) k = g m := if_pos rfl
    rw [e2]
    have e3 : In (putF h k (g m)) k x ↔ In h k x := by
      constructor
      · rintro ⟨i, hi, rfl⟩; exact ⟨i, hi, (if_neg (by omega)).symm⟩
      · rintro ⟨i, hi, rfl⟩; exact ⟨i, hi, if_neg (by omega)⟩
    rw [e3]
  last := by show putF h k (g m) (k + 1 - 1) = g (m + 1 - 1); rw [Nat.add_sub_cancel, Nat.add_sub_cancel]; exact if_pos rfl
  rest := fun i hi => by have e : putF h k (g m) i = h i := if_neg (by omega); rw [e]; exact hC.rest i (by omega)
theorem up_ext {g : Nat → Int} {n k : Nat} (hU : Up g n) (h : UpS g k) (hk : k < n) (h0 : 0 < k) (hne : ¬ g k = g (k - 1)) : UpS g (k + 1) := fun p q h1 h2 => by
  by_cases e : q = k
  · subst e
    have := hU (q - 1) q (by omega) hk
    by_cases ep : p = q - 1
    · rw [ep]; omega
    · have := h p (q - 1) (by omega) (by omega); omega
  · exact h p q h1 (by omega)
/-- numbers that ascend, each once: those of f -/
structure Ded (f : Nat → Int) (n : Nat) (h : Nat → Int) (k : Nat) : Prop where
  le : k ≤ n
  up : UpS h k
  mem : ∀ x, In h k x ↔ In f n x
/-- The variable that holds a timeline of points. -/
def Tv (w : World) (g : Nat) (u v : Value) : Prop := w.heap[g]? = some (.cells #[u, v, .func (.func 56) #[] #[]] 52 (0, 0))
theorem Tv.c {w : World} {g : Nat} {u v : Value} (h : Tv w g u v) : w.cell? ⟨g, 0, none⟩ = some u ∧ w.cell? ⟨g, 1, none⟩ = some v ∧ w.cell? ⟨g, 2, none⟩ = some (.func (.func 56) #[] #[]) := by
  unfold Tv at h
  simp [World.cell?, h]
theorem Tv.lt {w : World} {g : Nat} {u v : Value} (h : Tv w g u v) : g < w.heap.size := (Array.getElem?_eq_some_iff.1 h).1
theorem Tv.below {w w' : World} {g : Nat} {u v : Value} {B : Nat} (h : Tv w g u v) (hb : Below B w w') (hg : g < B) : Tv w' g u v := (hb.block g hg).trans h
theorem Tv.wr {w w' : World} {g q : Nat} {u v : Value} (h : Tv w g u v) (hW : Wr q w w') (hq : g ≠ q) : Tv w' g u v := (hW.block g h.lt hq).trans h
theorem teq_any (g : Nat) (u v : Value) (x y : Int) (w : World) (hT : Tv w g u v) :
    Calls Try.prog 71 #[.int .i64 x, .int .i64 y, .pointer (some ⟨g, 0, none⟩)] w fun e w' => e = .returned (.bool (decide (x = y))) ∧ Below w.heap.size w w' := by
  obtain ⟨c0, c1, c2⟩ := hT.c
  have HS := AllLt.start w; go_enter Try.func71, Try.ntmps71
  go_wp2_with fail
  (with_reducible refine (tcmp_any _ _ _ _ _).mono ?_)
  rintro e w2 ⟨rfl, hb⟩
  have HB := hid hb
  clear hb c0 c1 c2
  go_wp2
  go_ret
  exact ⟨ret_bool cmz_zero, HB.out⟩
theorem teq_in (args : Array Value) (w : World) : (callFunc 71 args).run Try.prog w = .ok (.enter 71 args) w := by kernel_rfl
end Go.Proofs.Ytmdgkhebefnfeab.C
