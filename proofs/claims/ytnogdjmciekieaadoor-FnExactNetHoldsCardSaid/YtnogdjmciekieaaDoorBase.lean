/- Words that the walks of this seat share: a slice of integers that came in. -/
import Derived.Test.YtnogdjmciekieaaDoorChecked
import Derived.WalkKit
import Derived.Below
import GoSem.ClaimChange
namespace Go.Proofs.YtnogdjmciekieaaDoor.C
open Go.RowKit

/-- A slice of integers that came in: nil, or a row of 'cap' cells that hold 'zs'. -/
def IsRow (k : IntKind) (w : World) (a : Option Addr) (len cap : Nat) (zs : List Int) : Prop :=
  (a = none ∧ len = 0 ∧ cap = 0 ∧ zs = []) ∨
  ∃ x, a = some x ∧ len ≤ cap ∧ cap ≤ maxLen ∧ zs.length = cap ∧ (∀ i, i < zs.length → w.cell? (x.add i) = some (.int k (zs.getD i 0))) ∧ ∀ n ∈ zs, (Lit.int k n).wf = true

theorem hid {p : Prop} (h : p) : Hid p := h
theorem ret_int {k : IntKind} {a b : Int} (h : a = b) : Ending.returned (.int k a) = .returned (.int k b) := by rw [h]
theorem ret_str {a b : ByteArray} (h : a = b) : Ending.returned (.string a) = .returned (.string b) := by rw [h]
theorem ret_val {k : IntKind} {a b : Int} (h : a = b) : Value.int k a = .int k b := by rw [h]
theorem ret_bool {a b : Bool} (h : a = b) : Ending.returned (.bool a) = .returned (.bool b) := by rw [h]

/-- A package-level variable: block g holds just these cells. -/
def Tb (w : World) (g : Nat) (cs : Array Value) : Prop := ∃ t fr, w.heap[g]? = some (.cells cs t fr)
theorem Tb.of_var {P : Program} {w : World} {n : String} {g : Nat} {cs : Array Value} (h : w.var? P n = some cs) (hg : P.globalNamed n = some g) : Tb w g cs := by
  unfold World.var? at h
  rw [hg] at h
  simp only [Option.bind_some] at h
  cases hh : w.heap[g]? with
  | none => rw [hh] at h; cases h
  | some o =>
    rw [hh] at h
    cases o with
    | cells c t fr => simp only [Option.some.injEq] at h; subst h; exact ⟨t, fr, hh⟩
    | _ => cases h
theorem Tb.lt {w : World} {g : Nat} {cs : Array Value} (h : Tb w g cs) : g < w.heap.size := by
  obtain ⟨t, fr, h⟩ := h
  exact (Array.getElem?_eq_some_iff.1 h).1
theorem Tb.below {w w' : World} {g : Nat} {cs : Array Value} (h : Tb w g cs) {B : Nat} (hb : Below B w w') (hB : g < B) : Tb w' g cs := by
  obtain ⟨t, fr, h⟩ := h
  exact ⟨t, fr, by rw [hb.block g hB]; exact h⟩
theorem Tb.cell {w : World} {g : Nat} {cs : Array Value} (h : Tb w g cs) (i : Nat) (v : Value) (hi : cs[i]? = some v) : w.cell? ⟨g, i, none⟩ = some v := by
  obtain ⟨t, fr, h⟩ := h
  simp [World.cell?, h, hi]
theorem new_cell (w : World) (x : Value) (t : TypeId) : (w.alloc (.cells #[x] t)).cell? ⟨w.heap.size, 0, none⟩ = some x := by simp [go_sem]
theorem cell_lt' {w : World} {b off : Nat} {v : Value} (h : w.cell? ⟨b, off, none⟩ = some v) : b < w.heap.size := by
  unfold World.cell? at h
  cases hh : w.heap[b]? with
  | none => simp [hh] at h
  | some o => exact (Array.getElem?_eq_some_iff.1 hh).1
theorem trodVars_len {H : Type} {enc : TypeId × Value → H} {P : Program} {w : World} {sp : Nat → Bool} : ∀ {ns : List String} {gs : List (DataW H)} {ps : List MemPlace}, DataW.TrodVars enc P w sp ns gs ps → gs.length = ns.length
  | [], [], _, _ => rfl
  | [], _ :: _, _, h => h.elim
  | _ :: _, [], _, h => h.elim
  | _ :: _, _ :: _, _, h => by
    obtain ⟨g, t, cs, fuel, p, q, _, _, _, _, hs, _⟩ := h
    simp [trodVars_len hs]

/-- Behind a call that leaves all that lay as it lay: what the walk wants of it. -/
theorem bst {w0 w w' : World} (h : Below w0.heap.size w0 w) (hb : Below w.heap.size w w') : Below w0.heap.size w0 w' ∧ w0.heap.size ≤ w'.heap.size ∧ w.heap.size ≤ w'.heap.size ∧
    (∀ b o, b < w.heap.size → w'.cell? ⟨b, o, none⟩ = w.cell? ⟨b, o, none⟩) ∧ (∀ b o, b < w.heap.size → w'.frozen? ⟨b, o, none⟩ = w.frozen? ⟨b, o, none⟩) :=
  ⟨h.trans (hb.mono h.size), Nat.le_trans h.size hb.size, hb.size, fun b o h => hb.cell (p := ⟨b, o, none⟩) h, fun b o h => hb.frozen (p := ⟨b, o, none⟩) h⟩
theorem lt2 (n : Nat) : n < n + 1 + 1 := by omega
theorem lt3 (n : Nat) : n < n + 1 + 1 + 1 := by omega
theorem lt4 (n : Nat) : n < n + 1 + 1 + 1 + 1 := by omega
/-- Blocks that lie below a heap's size. -/
def AllLt : List Nat → Nat → Prop
  | [], _ => True
  | n :: ns, m => (n < m ∧ n ≤ m ∧ n < m + 1 ∧ n < m + 1 + 1 ∧ ¬ n = m ∧ ¬ m = n) ∧ AllLt ns m
theorem AllLt.mk {n m : Nat} {ns : List Nat} (h : n < m) (H : AllLt ns m) : AllLt (n :: ns) m := ⟨⟨h, by omega, by omega, by omega, by omega, by omega⟩, H⟩
theorem AllLt.mono {n m : Nat} (h : n ≤ m) : ∀ {ns : List Nat}, AllLt ns n → AllLt ns m
  | [], _ => trivial
  | _ :: _, ⟨a, b⟩ => .mk (Nat.lt_of_lt_of_le a.1 h) (AllLt.mono h b)
theorem AllLt.start (w : World) : AllLt [] w.heap.size := trivial
theorem AllLt.g0 {p : Prop} {ns : List Nat} {n m : Nat} (H : AllLt ns n) (h : n ≤ m) (k : AllLt ns m → p) : p := k (H.mono h)
theorem AllLt.g1 {p : Prop} {ns : List Nat} {n m : Nat} (H : AllLt ns n) (h : n < m) (k : AllLt (n :: ns) m → p) : p := k (.mk h (H.mono (by omega)))
theorem AllLt.g2 {p : Prop} {ns : List Nat} {n m : Nat} (H : AllLt ns n) (h : n + 1 < m) (k : AllLt (n :: (n + 1) :: ns) m → p) : p := k (.mk (by omega) (.mk h (H.mono (by omega))))
theorem AllLt.g3 {p : Prop} {ns : List Nat} {n m : Nat} (H : AllLt ns n) (h : n + 2 < m) (k : AllLt (n :: (n + 1) :: (n + 1 + 1) :: ns) m → p) : p := k (.mk (by omega) (.mk (by omega) (.mk h (H.mono (by omega)))))
theorem AllLt.g4 {p : Prop} {ns : List Nat} {n m : Nat} (H : AllLt ns n) (h : n + 3 < m) (k : AllLt (n :: (n + 1) :: (n + 1 + 1) :: (n + 1 + 1 + 1) :: ns) m → p) : p := k (.mk (by omega) (.mk (by omega) (.mk (by omega) (.mk h (H.mono (by omega))))))
theorem AllLt.g5 {p : Prop} {ns : List Nat} {n m : Nat} (H : AllLt ns n) (h : n + 4 < m) (k : AllLt (n :: (n + 1) :: (n + 1 + 1) :: (n + 1 + 1 + 1) :: (n + 1 + 1 + 1 + 1) :: ns) m → p) : p := k (.mk (by omega) (.mk (by omega) (.mk (by omega) (.mk (by omega) (.mk h (H.mono (by omega)))))))

end Go.Proofs.YtnogdjmciekieaaDoor.C
