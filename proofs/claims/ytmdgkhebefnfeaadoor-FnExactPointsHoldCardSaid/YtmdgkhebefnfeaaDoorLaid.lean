/- What a listed table holds: its cells, out of its datum. No program is named here. -/
import Derived.Test.YtmdgkhebefnfeaaDoorTwo
import Derived.LaidLaws
import Derived.Stop.LaidErr
import Derived.OpenShut
import Derived.MakeChecks
namespace Go.Proofs.YtmdgkhebefnfeaaDoor.C
open Go.RowKit
set_option linter.unusedVariables false

/-- The parts of a value: offsets and types. -/
def partsOf (P : Program) (t : TypeId) : Option (List (Nat × TypeId)) :=
  match P.underlying t with
  | some (.struct fs) => some (fs.toList.map fun f => (f.offset, f.type))
  | some (.array n e) => some ((List.range n).map fun i => (i * P.cellsOf e, e))
  | _ => none

/-- Do just these cells read as the datum, at this type? -/
def fits (P : Program) : Nat → TypeId → DataW Unit → List Value → Bool
  | 0, _, _, _ => false
  | n + 1, t, d, cs =>
    match d with
    | .lit (.int k z) =>
      match cs with
      | [.int k' z'] => (match P.underlying t with | some (.int _) => true | _ => false) && decide (k = k') && decide (z = z')
      | _ => false
    | .lit (.string bs) =>
      match cs with
      | [.string s] => (match P.underlying t with | some .string => true | _ => false) && decide (bs = s.data.toList)
      | _ => false
    | .agg ds =>
      match partsOf P t with
      | none => false
      | some ps => decide (cs.length = P.cellsOf t) && decide (ds.length = ps.length) && ((List.range cs.length).all fun j => ps.any fun p => decide (p.1 ≤ j) && decide (j < p.1 + P.cellsOf p.2))
        && ((ps.zip ds).all fun x => fits P n x.1.2 x.2 ((cs.drop x.1.1).take (P.cellsOf x.1.2)))
    | _ => false

theorem slices_eq (P : Program) (ps : List (Nat × TypeId)) (cs cs' : List Value) (hl : cs'.length = cs.length) (hc : ((List.range cs.length).all fun j => ps.any fun p => decide (p.1 ≤ j) && decide (j < p.1 + P.cellsOf p.2)) = true)
    (h : ∀ x ∈ ps, (cs'.drop x.1).take (P.cellsOf x.2) = (cs.drop x.1).take (P.cellsOf x.2)) : cs' = cs := by
  apply List.ext_getElem?
  intro j
  by_cases hj : j < cs.length
  · have h1 := List.all_eq_true.1 hc j (by simpa using hj)
    obtain ⟨x, hx, h2⟩ := List.any_eq_true.1 h1
    simp only [Bool.and_eq_true, decide_eq_true_eq] at h2
    have h3 := congrArg (·[j - x.1]?) (h x hx)
    simp only [List.getElem?_take, List.getElem?_drop] at h3
    rw [if_pos (by omega), if_pos (by omega), show x.1 + (j - x.1) = j by omega] at h3
    exact h3
  · rw [List.getElem?_eq_none (by omega), List.getElem?_eq_none (by omega)]

theorem fits_cells {enc : TypeId × Value → Unit} {P : Program} {w : World} {base : Nat} {sp : Nat → Bool} {held : Bool} :
    ∀ (n : Nat) (t : TypeId) (d : DataW Unit) (cs : List Value), fits P n t d cs = true → ∀ (fuel : Nat) (cs' : List Value) (p : List MemPlace), DataW.trod enc P w base sp held fuel t cs' = some (d, p) → cs' = cs
  | 0, t, d, cs, h => by simp [fits] at h
  | n + 1, t, .lit (.int k z), cs, h => by
    intro fuel cs' p hd
    simp only [fits] at h
    split at h
    · rename_i k' z'
      simp only [Bool.and_eq_true, decide_eq_true_eq] at h
      obtain ⟨⟨h1, rfl⟩, rfl⟩ := h
      split at h1
      · rename_i k0 hu
        obtain ⟨m, rfl, hx, _⟩ := DataW.trod_int hu hd
        simp only [Prod.mk.injEq, DataW.lit.injEq, Lit.int.injEq] at hx
        obtain ⟨⟨rfl, rfl⟩, _⟩ := hx
        rfl
      · cases h1
    · cases h
  | n + 1, t, .lit (.string bs), cs, h => by
    intro fuel cs' p hd
    simp only [fits] at h
    split at h
    · rename_i s
      simp only [Bool.and_eq_true, decide_eq_true_eq] at h
      obtain ⟨h1, rfl⟩ := h
      split at h1
      · rename_i hu
        obtain ⟨m, rfl, hx, _⟩ := DataW.trod_string hu hd
        simp only [Prod.mk.injEq, DataW.lit.injEq, Lit.string.injEq] at hx
        obtain ⟨e, _⟩ := hx
        rw [ByteArray.ext (Array.ext' e.symm)]
      · cases h1
    · cases h
  | n + 1, t, .agg ds, cs, h => by
    intro fuel cs' p hd
    simp only [fits] at h
    split at h
    · cases h
    · rename_i ps hps
      simp only [Bool.and_eq_true, decide_eq_true_eq] at h
      obtain ⟨⟨⟨h1, h2⟩, h3⟩, h4⟩ := h
      have key : ∃ (m : Nat) (xs : List (DataW Unit × List MemPlace)), cs'.length = P.cellsOf t ∧ xs.length = ps.length ∧ ds = xs.map (·.1) ∧ ∀ (i : Nat) (x : Nat × TypeId), ps[i]? = some x → DataW.trod enc P w base sp held m x.2 ((cs'.drop x.1).take (P.cellsOf x.2)) = xs[i]? := by
        unfold partsOf at hps
        split at hps
        · rename_i fs hu
          obtain ⟨xs, m, _, hx, hl, hn, hf⟩ := DataW.trod_struct hu hd
          simp only [Prod.mk.injEq, DataW.agg.injEq] at hx
          simp only [Option.some.injEq] at hps
          subst hps
          refine ⟨m, xs, hl, by simpa using hn, hx.1, fun i x hi => ?_⟩
          simp only [List.getElem?_map, Option.map_eq_some_iff] at hi
          obtain ⟨f, hf1, rfl⟩ := hi
          exact hf i f (by simpa using hf1)
        · rename_i k e hu
          obtain ⟨xs, m, _, hx, hl, hn, hf⟩ := DataW.trod_array hu hd
          simp only [Prod.mk.injEq, DataW.agg.injEq] at hx
          simp only [Option.some.injEq] at hps
          subst hps
          refine ⟨m, xs, hl, by simpa using hn, hx.1, fun i x hi => ?_⟩
          simp only [List.getElem?_map, Option.map_eq_some_iff] at hi
          obtain ⟨j, hj, rfl⟩ := hi
          by_cases hik : i < k
          · rw [List.getElem?_range hik] at hj
            obtain rfl := Option.some.inj hj
            exact hf i hik
          · rw [List.getElem?_eq_none (by simpa using hik)] at hj
            cases hj
        · cases hps
      obtain ⟨m, xs, hl, hn, hds, hf⟩ := key
      refine slices_eq P ps cs cs' (by omega) h3 fun x hx => ?_
      obtain ⟨i, hi⟩ := List.getElem?_of_mem hx
      have hil : i < ps.length := (List.getElem?_eq_some_iff.1 hi).1
      obtain ⟨y, hy⟩ : ∃ y, xs[i]? = some y := ⟨xs[i], List.getElem?_eq_getElem (by omega)⟩
      have hmem : (x, y.1) ∈ ps.zip ds := by
        apply List.mem_of_getElem? (i := i)
        rw [List.getElem?_zip_eq_some]
        exact ⟨hi, by rw [hds]; simp [hy]⟩
      have h5 := List.all_eq_true.1 h4 _ hmem
      have h6 := hf i x hi
      rw [hy] at h6
      exact fits_cells n x.2 y.1 _ h5 m _ _ h6
  | n + 1, t, .lit (.bool b), cs, h => by simp [fits] at h
  | n + 1, t, .lit (.float k b), cs, h => by simp [fits] at h
  | n + 1, t, .lit .nil, cs, h => by simp [fits] at h
  | n + 1, t, .nil, cs, h => by simp [fits] at h
  | n + 1, t, .ptr d, cs, h => by simp [fits] at h
  | n + 1, t, .slice a b, cs, h => by simp [fits] at h
  | n + 1, t, .iface a d, cs, h => by simp [fits] at h
  | n + 1, t, .map es, cs, h => by simp [fits] at h
  | n + 1, t, .held x, cs, h => by simp [fits] at h

/-- The table that stands first on the list of what is laid. -/
theorem laid_head {P : Program} {W : World} {name : String} {d : DataW Unit} {rest : List (String × DataW Unit)} {g : Nat} {t : TypeId} {cs : List Value} (n : Nat)
    (hg : P.globalNamed name = some g) (hty : (P.globals[g]?).map (·.type) = some t) (hf : fits P n t d cs = true) (h : laidMet P ((name, d) :: rest) W) : W.var? P name = some cs.toArray := by
  obtain ⟨ps, ⟨g', t', cs', fuel, p, q, hg', ht', hvar, hd, _, _⟩, _⟩ := h
  obtain rfl := Option.some.inj (hg.symm.trans hg')
  obtain rfl := Option.some.inj (hty.symm.trans ht')
  rw [hvar, ← fits_cells n t d cs hf fuel _ _ hd]
theorem tb_head {P : Program} {W : World} {name : String} {d : DataW Unit} {rest : List (String × DataW Unit)} {g : Nat} {t : TypeId} {cs : List Value} (n : Nat)
    (hg : P.globalNamed name = some g) (hty : (P.globals[g]?).map (·.type) = some t) (hf : fits P n t d cs = true) (h : laidMet P ((name, d) :: rest) W) : Tb W g cs.toArray :=
  Tb.of_var (laid_head n hg hty hf h) hg
end Go.Proofs.YtmdgkhebefnfeaaDoor.C
