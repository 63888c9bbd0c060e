/- A map of pairs to true, as the list of the pairs that are in it: looked up, stored, deleted, counted. No program is named here. -/
import Derived.Maps.OwnSet
import Derived.Maps.OwnOps
import Derived.DeepKeys4
import Derived.Below
namespace Go.Proofs.YtmdgkhebefnfeaaDoor.C
open Go.RowKit Go.ChangeMaps Go.MapKept
open Go.Maps (Keyed)
set_option linter.unusedVariables false
set_option linter.unusedSimpArgs false
def pvv (p : Nat × Nat) : Value := .agg #[.int .i64 (p.1 : Int), .int .i64 (p.2 : Int)]
theorem pvv_inj {p q : Nat × Nat} (h : pvv p = pvv q) : p = q := by
  obtain ⟨a, b⟩ := p
  obtain ⟨c, d⟩ := q
  simp [pvv] at h
  obtain ⟨h1, h2⟩ := h
  obtain rfl : a = c := by omega
  obtain rfl : b = d := by omega
  rfl
/-- Block g is a map that has just these pairs, each with true. -/
def OpM (w : World) (g : Nat) (l : List (Nat × Nat)) : Prop :=
  ∃ es clock, w.heap[g]? = some (.map es clock) ∧ es.toList.map (fun e => (e.key, e.val)) = l.map fun p => (pvv p, Value.bool true)
/-- .. with one pair more. -/
def putP (l : List (Nat × Nat)) (p : Nat × Nat) : List (Nat × Nat) := if p ∈ l then l else l ++ [p]
/-- Only block g of the older ones has another content. -/
def MW (g : Nat) (w w' : World) : Prop := ∃ o, w' = setBlock w g o
theorem OpM.lt {w : World} {g : Nat} {l : List (Nat × Nat)} (h : OpM w g l) : g < w.heap.size := by
  obtain ⟨es, clock, hb, _⟩ := h
  exact (Array.getElem?_eq_some_iff.1 hb).1
theorem OpM.block {w w' : World} {g : Nat} {l : List (Nat × Nat)} (h : OpM w g l) (e : w'.heap[g]? = w.heap[g]?) : OpM w' g l := by
  obtain ⟨es, clock, hb, hm⟩ := h
  exact ⟨es, clock, e.trans hb, hm⟩
theorem OpM.below {w w' : World} {g : Nat} {l : List (Nat × Nat)} (h : OpM w g l) (hb : Below w.heap.size w w') : OpM w' g l := h.block (hb.block g h.lt)
theorem pair_at {es : List MapEntry} {l : List (Nat × Nat)} (h : es.map (fun e => (e.key, e.val)) = l.map fun p => (pvv p, Value.bool true)) {j : Nat} {e0 : MapEntry} (hj : es[j]? = some e0) : ∃ q, l[j]? = some q ∧ e0.key = pvv q ∧ e0.val = .bool true := by
  have := congrArg (fun m => m[j]?) h
  simp only [List.getElem?_map, hj, Option.map_some] at this
  cases hq : l[j]? with
  | none => rw [hq] at this; simp at this
  | some q =>
    rw [hq] at this
    simp at this
    exact ⟨q, rfl, this.1, this.2⟩
theorem mem_at {es : List MapEntry} {l : List (Nat × Nat)} (h : es.map (fun e => (e.key, e.val)) = l.map fun p => (pvv p, Value.bool true)) {e0 : MapEntry} (he : e0 ∈ es) : ∃ q ∈ l, e0.key = pvv q := by
  obtain ⟨j, hj⟩ := List.mem_iff_getElem?.1 he
  obtain ⟨q, hq, h1, _⟩ := pair_at h hj
  exact ⟨q, List.mem_of_getElem? hq, h1⟩
theorem mp_mem {es : List MapEntry} {l : List (Nat × Nat)} (h : es.map (fun e => (e.key, e.val)) = l.map fun p => (pvv p, Value.bool true)) {q : Nat × Nat} (hq : q ∈ l) : ∃ e0 ∈ es, e0.key = pvv q := by
  obtain ⟨j, hj⟩ := List.mem_iff_getElem?.1 hq
  have := congrArg (fun m => m[j]?) h
  simp only [List.getElem?_map, hj, Option.map_some] at this
  cases he : es[j]? with
  | none => rw [he] at this; simp at this
  | some e0 =>
    rw [he] at this
    simp at this
    exact ⟨e0, List.mem_of_getElem? he, this.1⟩
section
variable {P : Program} {k t e : TypeId} {w : World} {g : Nat} {l : List (Nat × Nat)}
theorem keys_of {es : List MapEntry} (h : es.map (fun e => (e.key, e.val)) = l.map fun p => (pvv p, Value.bool true)) (H : ∀ p ∈ l, ∃ kl, keyOf P k (pvv p) = some kl) : ∀ x ∈ es, ∃ kl, keyOf P k x.key = some kl := by
  intro x hx
  obtain ⟨q, hq, e⟩ := mem_at h hx
  rw [e]; exact H q hq
theorem OpM.look (h : OpM w g l) (K : Keyed P k) (ht : P.underlying t = some (.map k e)) (hz : (zeroValue e).run P w = .ok (.bool false) w) (H : ∀ p ∈ l, ∃ kl, keyOf P k (pvv p) = some kl) (p : Nat × Nat) (hp : ∃ kl, keyOf P k (pvv p) = some kl) :
    (Instr.lookup t (.map (some g)) (pvv p) false).run P w = .ok (.bool (decide (p ∈ l))) w := by
  obtain ⟨es, clock, hb, hm⟩ := h
  obtain ⟨kl, hkey⟩ := hp
  rcases K.find w hkey es.toList (keys_of hm H) with ⟨h1, h2⟩ | ⟨j, e0, h1, h2, h3⟩
  · have hn : p ∉ l := fun hp => by
      obtain ⟨e0, he0, hk⟩ := mp_mem hm hp
      exact h2 e0 he0 hk
    rw [decide_eq_false hn]
    simp [Instr.lookup, run_underlying ht, MapKept.run_getObj_map hb, K.check w _ hkey, h1, hz, Result.andThen]
  · obtain ⟨q, hq, e1, e2⟩ := pair_at hm h2
    have hpl : p ∈ l := by
      have : q = p := pvv_inj (e1.symm.trans h3)
      rw [← this]; exact List.mem_of_getElem? hq
    rw [decide_eq_true hpl]
    simp [Instr.lookup, run_underlying ht, MapKept.run_getObj_map hb, K.check w _ hkey, h1, e2, Result.andThen]
theorem OpM.store (h : OpM w g l) (K : Keyed P k) (ht : P.underlying t = some (.map k e)) (H : ∀ p ∈ l, ∃ kl, keyOf P k (pvv p) = some kl) (p : Nat × Nat) (hp : ∃ kl, keyOf P k (pvv p) = some kl) :
    ∃ w', (Instr.mapUpdate t (.map (some g)) (pvv p) (.bool true)).run P w = .ok () w' ∧ OpM w' g (putP l p) ∧ MW g w w' := by
  obtain ⟨es, clock, hb, hm⟩ := h
  obtain ⟨kl, hkey⟩ := hp
  rcases K.find w hkey es.toList (keys_of hm H) with ⟨h1, h2⟩ | ⟨j, e0, h1, h2, h3⟩
  · have hn : p ∉ l := fun hp => by
      obtain ⟨e0, he0, hk⟩ := mp_mem hm hp
      exact h2 e0 he0 hk
    refine ⟨setBlock w g (.map (es.push ⟨pvv p, .bool true, clock⟩) (clock + 1)), ?_, ⟨_, _, heap_setBlock_same hb _, ?_⟩, ⟨_, rfl⟩⟩
    · simp [Instr.mapUpdate, run_underlying ht, MapKept.run_getObj_map hb, K.check w false hkey, h1, MapKept.run_setObj_map _ hb, Result.andThen, setBlock]
    · rw [putP, if_neg hn, Array.toList_push, List.map_append, hm, List.map_append]; rfl
  · obtain ⟨q, hq, e1, e2⟩ := pair_at hm h2
    have hqp : q = p := pvv_inj (e1.symm.trans h3)
    have hpl : p ∈ l := by rw [← hqp]; exact List.mem_of_getElem? hq
    have hj : es[j]? = some e0 := by simpa using h2
    refine ⟨setBlock w g (.map (es.modify j (fun e' => { e' with key := pvv p, val := .bool true })) clock), ?_, ⟨_, _, heap_setBlock_same hb _, ?_⟩, ⟨_, rfl⟩⟩
    · simp [Instr.mapUpdate, run_underlying ht, MapKept.run_getObj_map hb, K.check w false hkey, h1, hj, h3, K.stays w hkey, MapKept.run_setObj_map _ hb, Result.andThen, setBlock]
    · rw [putP, if_pos hpl, ← hm]
      apply List.ext_getElem?
      intro i
      simp only [List.getElem?_map, Array.getElem?_toList, Array.getElem?_modify]
      by_cases hij : j = i
      · subst hij
        rw [if_pos rfl, hj]
        simp [h3, e2]
      · rw [if_neg hij]
theorem erase_at {l : List (Nat × Nat)} (hn : l.Nodup) {j : Nat} {p : Nat × Nat} (h : l[j]? = some p) : l.eraseIdx j = l.erase p := by
  induction l generalizing j with
  | nil => simp at h
  | cons a l ih =>
    obtain ⟨hn1, hn2⟩ := List.nodup_cons.1 hn
    cases j with
    | zero => simp at h; subst h; simp
    | succ j =>
      have h' : l[j]? = some p := by simpa using h
      have hne : ¬ a = p := fun e => hn1 (by rw [e]; exact List.mem_of_getElem? h')
      rw [List.eraseIdx_cons_succ, ih hn2 h', List.erase_cons, if_neg (by simpa using hne)]
theorem OpM.drop (h : OpM w g l) (hn : l.Nodup) (K : Keyed P k) (ht : P.underlying t = some (.map k e)) (H : ∀ p ∈ l, ∃ kl, keyOf P k (pvv p) = some kl) (p : Nat × Nat) (hp : ∃ kl, keyOf P k (pvv p) = some kl) (ty : TypeId) :
    ∃ w', (Builtin.delete_ #[t, k] ty #[.map (some g), pvv p]).run P w = .ok (.tuple #[]) w' ∧ OpM w' g (l.erase p) ∧ MW g w w' := by
  obtain ⟨es, clock, hb, hm⟩ := h
  obtain ⟨kl, hkey⟩ := hp
  rcases K.find w hkey es.toList (keys_of hm H) with ⟨h1, h2⟩ | ⟨j, e0, h1, h2, h3⟩
  · have hpn : p ∉ l := fun hp => by
      obtain ⟨e0, he0, hk⟩ := mp_mem hm hp
      exact h2 e0 he0 hk
    refine ⟨setBlock w g (.map es clock), ?_, ⟨_, _, heap_setBlock_same hb _, ?_⟩, ⟨_, rfl⟩⟩
    · simp [Builtin.delete_, run_underlying ht, MapKept.run_getObj_map hb, K.check w _ hkey, h1, MapKept.run_setObj_map _ hb, Result.andThen, setBlock]
    · rw [List.erase_of_not_mem hpn]; exact hm
  · obtain ⟨q, hq, e1, e2⟩ := pair_at hm h2
    have hqp : q = p := pvv_inj (e1.symm.trans h3)
    subst hqp
    have hjs : j < es.size := by simpa using (List.getElem?_eq_some_iff.1 h2).1
    have hsub : (es.eraseIdxIfInBounds j).toList = es.toList.eraseIdx j := by
      unfold Array.eraseIdxIfInBounds
      rw [dif_pos hjs]
      simp
    refine ⟨setBlock w g (.map (es.eraseIdxIfInBounds j) clock), ?_, ⟨_, _, heap_setBlock_same hb _, ?_⟩, ⟨_, rfl⟩⟩
    · simp [Builtin.delete_, run_underlying ht, MapKept.run_getObj_map hb, K.check w _ hkey, h1, MapKept.run_setObj_map _ hb, Result.andThen, setBlock]
    · rw [hsub, map_eraseIdx, hm, ← map_eraseIdx, erase_at hn hq]
theorem OpM.count (h : OpM w g l) (ht : P.underlying t = some (.map k e)) (ty : TypeId) : (Builtin.len_ #[t] ty #[.map (some g)]).run P w = .ok (.int .i64 (l.length : Nat)) w := by
  obtain ⟨es, clock, hb, hm⟩ := h
  have := congrArg List.length hm
  simp at this
  simp [Builtin.len_, run_underlying ht, MapKept.run_getObj_map hb, goInt, Result.andThen, this]
end
section
variable {P : Program} (w : World) {ops : Array Oper} {rest : List Oper} {o : Oper} {a : Act} {Q : Exit → Act → World → Prop}
theorem wp_look (hg : o.guard = none) (m x : Operand) (t : TypeId) (hop : o.op = Op.lookup t m x false)
    (k e : TypeId) (K : Keyed P k) (ht : P.underlying t = some (.map k e)) (hz : (zeroValue e).run P w = .ok (.bool false) w) (g : Nat) (l : List (Nat × Nat))
    (hm : a.eval m = .map (some g)) (hown : OpM w g l) (H : ∀ p ∈ l, ∃ kl, keyOf P k (pvv p) = some kl) (p : Nat × Nat) (hx : a.eval x = pvv p) (hp : ∃ kl, keyOf P k (pvv p) = some kl)
    (hK : wpList P ops Q rest (a.put o.dst (.bool (decide (p ∈ l)))) w) : wpList P ops Q (o :: rest) a w := by
  refine wpList_plain hg fun K' hK' => ?_
  have hrun := hown.look K ht hz H p hp
  unfold Oper.wp
  simp [execOp, hop, hm, hx, hrun, Result.andThen]
  exact hK' _ _ (by simpa using hK)
theorem wp_store (hg : o.guard = none) (m x v : Operand) (t : TypeId) (hop : o.op = Op.mapUpdate t m x v)
    (k e : TypeId) (K : Keyed P k) (ht : P.underlying t = some (.map k e)) (g : Nat) (l : List (Nat × Nat))
    (hm : a.eval m = .map (some g)) (hown : OpM w g l) (H : ∀ p ∈ l, ∃ kl, keyOf P k (pvv p) = some kl) (p : Nat × Nat) (hx : a.eval x = pvv p) (hv : a.eval v = .bool true) (hp : ∃ kl, keyOf P k (pvv p) = some kl)
    (hK : ∀ w', OpM w' g (putP l p) → MW g w w' → wpList P ops Q rest (a.put o.dst undef) w') : wpList P ops Q (o :: rest) a w := by
  refine wpList_plain hg fun K' hK' => ?_
  obtain ⟨w', hrun, r1, r2⟩ := hown.store K ht H p hp
  unfold Oper.wp
  simp [execOp, hop, hm, hx, hv, hrun, Result.andThen]
  exact hK' _ _ (hK w' r1 r2)
theorem wp_drop (hg : o.guard = none) (m x : Operand) (t k : TypeId) (hop : o.op = Op.call { callee := Callee.builtin Builtin.delete, args := #[m, x], argTypes := #[t, k] })
    (e : TypeId) (K : Keyed P k) (ht : P.underlying t = some (.map k e)) (g : Nat) (l : List (Nat × Nat)) (hn : l.Nodup)
    (hm : a.eval m = .map (some g)) (hown : OpM w g l) (H : ∀ p ∈ l, ∃ kl, keyOf P k (pvv p) = some kl) (p : Nat × Nat) (hx : a.eval x = pvv p) (hp : ∃ kl, keyOf P k (pvv p) = some kl)
    (hK : ∀ w', OpM w' g (l.erase p) → MW g w w' → wpList P ops Q rest (a.put o.dst (.tuple #[])) w') : wpList P ops Q (o :: rest) a w := by
  refine wpList_plain hg fun K' hK' => ?_
  obtain ⟨w', hrun, r1, r2⟩ := hown.drop hn K ht H p hp o.type
  unfold Oper.wp
  simp [execOp, hop, resolve, invoke, builtin, hm, hx, hrun, Result.andThen]
  exact hK' _ _ (hK w' r1 r2)
theorem wp_count (hg : o.guard = none) (m : Operand) (t : TypeId) (hop : o.op = Op.call { callee := Callee.builtin Builtin.len, args := #[m], argTypes := #[t] })
    (k e : TypeId) (ht : P.underlying t = some (.map k e)) (g : Nat) (l : List (Nat × Nat)) (hm : a.eval m = .map (some g)) (hown : OpM w g l)
    (hK : wpList P ops Q rest (a.put o.dst (.int .i64 (l.length : Nat))) w) : wpList P ops Q (o :: rest) a w := by
  refine wpList_plain hg fun K' hK' => ?_
  unfold Oper.wp
  simp [execOp, hop, resolve, invoke, builtin, hm, hown.count ht o.type, Result.andThen]
  exact hK' _ _ hK
end
end Go.Proofs.YtmdgkhebefnfeaaDoor.C
