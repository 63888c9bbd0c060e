/- A map of pairs to numbers, as a function of pairs: looked up with the comma, stored. No program is named here. -/
import Derived.Test.YtmdgkhebefnfeaaDoorMapP
namespace Go.Proofs.YtmdgkhebefnfeaaDoor.C
open Go.RowKit Go.ChangeMaps Go.MapKept
open Go.Maps (Keyed)
set_option linter.unusedVariables false
set_option linter.unusedSimpArgs false
/-- Block g is a map that has just these numbers. -/
def FM (w : World) (g : Nat) (G : Nat × Nat → Option Nat) : Prop :=
  ∃ es clock, w.heap[g]? = some (.map es clock) ∧ (∀ e ∈ es.toList, ∃ p v, e.key = pvv p ∧ e.val = .int .i64 ((v : Nat) : Int) ∧ G p = some v) ∧ (∀ p v, G p = some v → ∃ e ∈ es.toList, e.key = pvv p) ∧ es.toList.Pairwise fun e f => e.key ≠ f.key
def putG (G : Nat × Nat → Option Nat) (p : Nat × Nat) (v : Nat) : Nat × Nat → Option Nat := fun q => if q = p then some v else G q
theorem FM.lt {w : World} {g : Nat} {G : Nat × Nat → Option Nat} (h : FM w g G) : g < w.heap.size := by
  obtain ⟨es, clock, hb, _⟩ := h
  exact (Array.getElem?_eq_some_iff.1 hb).1
theorem FM.block {w w' : World} {g : Nat} {G : Nat × Nat → Option Nat} (h : FM w g G) (e : w'.heap[g]? = w.heap[g]?) : FM w' g G := by
  obtain ⟨es, clock, hb, hm⟩ := h
  exact ⟨es, clock, e.trans hb, hm⟩
theorem FM.below {w w' : World} {g : Nat} {G : Nat × Nat → Option Nat} (h : FM w g G) (hb : Below w.heap.size w w') : FM w' g G := h.block (hb.block g h.lt)
theorem FM.made (w : World) : FM (w.alloc (.map #[] 0)) w.heap.size fun _ => none :=
  ⟨#[], 0, heap_alloc_new w _, fun e he => (by simp at he), fun p v h => (by cases h), by simp⟩
theorem pw_at {es : List MapEntry} (h : es.Pairwise fun e f => e.key ≠ f.key) {i j : Nat} {e f : MapEntry} (hi : es[i]? = some e) (hj : es[j]? = some f) (hk : e.key = f.key) : i = j := by
  obtain ⟨hi', rfl⟩ := List.getElem?_eq_some_iff.1 hi
  obtain ⟨hj', rfl⟩ := List.getElem?_eq_some_iff.1 hj
  rcases Nat.lt_trichotomy i j with e | e | e
  · exact absurd hk (List.pairwise_iff_getElem.1 h i j hi' hj' e)
  · exact e
  · exact absurd hk.symm (List.pairwise_iff_getElem.1 h j i hj' hi' e)
section
variable {P : Program} {k t e : TypeId} {w : World} {g : Nat} {G : Nat × Nat → Option Nat}
theorem FM.look (h : FM w g G) (K : Keyed P k) (ht : P.underlying t = some (.map k e)) (hz : (zeroValue e).run P w = .ok (.int .i64 0) w) (H : ∀ p v, G p = some v → ∃ kl, keyOf P k (pvv p) = some kl) (p : Nat × Nat) (hp : ∃ kl, keyOf P k (pvv p) = some kl) :
    (Instr.lookup t (.map (some g)) (pvv p) true).run P w = .ok (.tuple #[.int .i64 (((G p).getD 0 : Nat) : Int), .bool (G p).isSome]) w := by
  obtain ⟨es, clock, hb, hm, hm2, hm3⟩ := h
  obtain ⟨kl, hkey⟩ := hp
  have hk0 : ∀ x ∈ es.toList, ∃ kl, keyOf P k x.key = some kl := fun x hx => by
    obtain ⟨q, v, h1, _, h3⟩ := hm x hx
    rw [h1]; exact H q v h3
  rcases K.find w hkey es.toList hk0 with ⟨h1, h2⟩ | ⟨j, e0, h1, h2, h3⟩
  · have hn : G p = none := by
      cases hG : G p with
      | none => rfl
      | some v =>
        obtain ⟨e0, he0, hk⟩ := hm2 p v hG
        exact absurd hk (h2 e0 he0)
    rw [hn]
    simp [Instr.lookup, run_underlying ht, MapKept.run_getObj_map hb, K.check w _ hkey, h1, hz, Result.andThen]
  · obtain ⟨q, v, e1, e2, e3⟩ := hm e0 (List.mem_of_getElem? h2)
    obtain rfl : q = p := pvv_inj (e1.symm.trans h3)
    rw [e3]
    simp [Instr.lookup, run_underlying ht, MapKept.run_getObj_map hb, K.check w _ hkey, h1, e2, Result.andThen]
theorem FM.store (h : FM w g G) (K : Keyed P k) (ht : P.underlying t = some (.map k e)) (H : ∀ p v, G p = some v → ∃ kl, keyOf P k (pvv p) = some kl) (p : Nat × Nat) (hp : ∃ kl, keyOf P k (pvv p) = some kl) (v : Nat) :
    ∃ w', (Instr.mapUpdate t (.map (some g)) (pvv p) (.int .i64 ((v : Nat) : Int))).run P w = .ok () w' ∧ FM w' g (putG G p v) ∧ MW g w w' := by
  obtain ⟨es, clock, hb, hm, hm2, hm3⟩ := h
  obtain ⟨kl, hkey⟩ := hp
  have hk0 : ∀ x ∈ es.toList, ∃ kl, keyOf P k x.key = some kl := fun x hx => by
    obtain ⟨q, v, h1, _, h3⟩ := hm x hx
    rw [h1]; exact H q v h3
  rcases K.find w hkey es.toList hk0 with ⟨h1, h2⟩ | ⟨j, e0, h1, h2, h3⟩
  · refine ⟨setBlock w g (.map (es.push ⟨pvv p, .int .i64 ((v : Nat) : Int), clock⟩) (clock + 1)), ?_, ⟨_, _, heap_setBlock_same hb _, ?_, ?_, ?_⟩, ⟨_, rfl⟩⟩
    · simp [Instr.mapUpdate, run_underlying ht, MapKept.run_getObj_map hb, K.check w false hkey, h1, MapKept.run_setObj_map _ hb, Result.andThen, setBlock]
    · intro x hx
      rw [Array.toList_push, List.mem_append] at hx
      rcases hx with hx | hx
      · obtain ⟨q, u, a1, a2, a3⟩ := hm x hx
        refine ⟨q, u, a1, a2, ?_⟩
        unfold putG
        rw [if_neg (fun e => h2 x hx (by rw [a1, e]))]
        exact a3
      · obtain rfl : x = _ := by simpa using hx
        exact ⟨p, v, rfl, rfl, by simp [putG]⟩
    · intro q u hq
      rw [Array.toList_push]
      unfold putG at hq
      by_cases e : q = p
      · exact ⟨⟨pvv p, .int .i64 ((v : Nat) : Int), clock⟩, by simp, by rw [e]⟩
      · rw [if_neg e] at hq
        obtain ⟨x, hx, hk⟩ := hm2 q u hq
        exact ⟨x, by simp [Array.mem_toList_iff.1 hx], hk⟩
    · rw [Array.toList_push, List.pairwise_append]
      refine ⟨hm3, by simp, fun x hx y hy => ?_⟩
      obtain rfl : y = _ := by simpa using hy
      exact h2 x hx
  · have hj : es[j]? = some e0 := by simpa using h2
    refine ⟨setBlock w g (.map (es.modify j (fun e' => { e' with key := pvv p, val := .int .i64 ((v : Nat) : Int) })) clock), ?_, ⟨_, _, heap_setBlock_same hb _, ?_, ?_, ?_⟩, ⟨_, rfl⟩⟩
    · simp [Instr.mapUpdate, run_underlying ht, MapKept.run_getObj_map hb, K.check w false hkey, h1, hj, h3, K.stays w hkey, MapKept.run_setObj_map _ hb, Result.andThen, setBlock]
    · intro x hx
      obtain ⟨i, hi⟩ := List.mem_iff_getElem?.1 hx
      simp only [Array.getElem?_toList, Array.getElem?_modify] at hi
      by_cases hij : j = i
      · subst hij
        rw [if_pos rfl, hj] at hi
        simp at hi
        subst hi
        exact ⟨p, v, rfl, rfl, by simp [putG]⟩
      · rw [if_neg hij] at hi
        have hi' : es.toList[i]? = some x := by simpa using hi
        obtain ⟨q, u, a1, a2, a3⟩ := hm x (List.mem_of_getElem? hi')
        refine ⟨q, u, a1, a2, ?_⟩
        unfold putG
        rw [if_neg (fun e => hij (pw_at hm3 h2 hi' (by rw [h3, a1, e])))]
        exact a3
    · intro q u hq
      unfold putG at hq
      by_cases e : q = p
      · refine ⟨{ e0 with key := pvv p, val := .int .i64 ((v : Nat) : Int) }, ?_, by rw [e]⟩
        refine List.mem_iff_getElem?.2 ⟨j, ?_⟩
        simp only [Array.getElem?_toList, Array.getElem?_modify]
        rw [if_pos trivial, hj]; rfl
      · rw [if_neg e] at hq
        obtain ⟨x, hx, hk⟩ := hm2 q u hq
        obtain ⟨i, hi⟩ := List.mem_iff_getElem?.1 hx
        have hij : ¬ j = i := fun hij => by
          subst hij
          rw [h2] at hi
          cases hi
          exact e (pvv_inj (hk.symm.trans h3))
        refine ⟨x, List.mem_iff_getElem?.2 ⟨i, ?_⟩, hk⟩
        simp only [Array.getElem?_toList, Array.getElem?_modify]
        rw [if_neg hij]
        simpa using hi
    · have hmm : (es.modify j (fun e' => { e' with key := pvv p, val := .int .i64 ((v : Nat) : Int) })).toList.map (·.key) = es.toList.map (·.key) := by
        apply List.ext_getElem?
        intro i
        simp only [List.getElem?_map, Array.getElem?_toList, Array.getElem?_modify]
        by_cases hij : j = i
        · subst hij
          rw [if_pos rfl, hj]
          simp [h3]
        · rw [if_neg hij]
      have h4 : (es.toList.map (·.key)).Pairwise (· ≠ ·) := by rw [List.pairwise_map]; exact hm3
      rw [← hmm, List.pairwise_map] at h4
      exact h4
end
section
variable {P : Program} (w : World) {ops : Array Oper} {rest : List Oper} {o : Oper} {a : Act} {Q : Exit → Act → World → Prop}
theorem wp_lookq (hg : o.guard = none) (m x : Operand) (t : TypeId) (hop : o.op = Op.lookup t m x true)
    (k e : TypeId) (K : Keyed P k) (ht : P.underlying t = some (.map k e)) (hz : (zeroValue e).run P w = .ok (.int .i64 0) w) (g : Nat) (G : Nat × Nat → Option Nat)
    (hm : a.eval m = .map (some g)) (hown : FM w g G) (H : ∀ p v, G p = some v → ∃ kl, keyOf P k (pvv p) = some kl) (p : Nat × Nat) (hx : a.eval x = pvv p) (hp : ∃ kl, keyOf P k (pvv p) = some kl)
    (hK : wpList P ops Q rest (a.put o.dst (.tuple #[.int .i64 (((G p).getD 0 : Nat) : Int), .bool (G p).isSome])) w) : wpList P ops Q (o :: rest) a w := by
  refine wpList_plain hg fun K' hK' => ?_
  have hrun := hown.look K ht hz H p hp
  unfold Oper.wp
  simp [execOp, hop, hm, hx, hrun, Result.andThen]
  exact hK' _ _ (by simpa using hK)
theorem wp_storeq (hg : o.guard = none) (m x v : Operand) (t : TypeId) (hop : o.op = Op.mapUpdate t m x v)
    (k e : TypeId) (K : Keyed P k) (ht : P.underlying t = some (.map k e)) (g : Nat) (G : Nat × Nat → Option Nat)
    (hm : a.eval m = .map (some g)) (hown : FM w g G) (H : ∀ p v, G p = some v → ∃ kl, keyOf P k (pvv p) = some kl) (p : Nat × Nat) (hx : a.eval x = pvv p) (r : Nat) (hv : a.eval v = .int .i64 ((r : Nat) : Int)) (hp : ∃ kl, keyOf P k (pvv p) = some kl)
    (hK : ∀ w', FM w' g (putG G p r) → MW g w w' → wpList P ops Q rest (a.put o.dst undef) w') : wpList P ops Q (o :: rest) a w := by
  refine wpList_plain hg fun K' hK' => ?_
  obtain ⟨w', hrun, r1, r2⟩ := hown.store K ht H p hp r
  unfold Oper.wp
  simp [execOp, hop, hm, hx, hv, hrun, Result.andThen]
  exact hK' _ _ (hK w' r1 r2)
end
end Go.Proofs.YtmdgkhebefnfeaaDoor.C
