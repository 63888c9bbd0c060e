/- The model: one pass over all pairs, with its notes; whether a network is closed: the exact law. -/
import Derived.Test.YtnogdjmciekieabDoorCloS
import Derived.Test.YtnogdjmciekieabDoorNetZ
import Derived.Test.YtnogdjmciekieabDoorPrs
import Derived.Laws.Concat
import Derived.Deep.DeepCutAuto
namespace Go.Proofs.YtnogdjmciekieabDoor.C
section
open Go.RowKit
set_option linter.unusedVariables false
set_option linter.unusedSimpArgs false
/-- a digit's text -/
def decB (n : Nat) : ByteArray := ⟨#[UInt8.ofNat (48 + n)]⟩
theorem dec_nat {n : Nat} (h : n < 10) : (UInt8.ofNat (48 + n)).toNat = 48 + n := by
  have : n = 0 ∨ n = 1 ∨ n = 2 ∨ n = 3 ∨ n = 4 ∨ n = 5 ∨ n = 6 ∨ n = 7 ∨ n = 8 ∨ n = 9 := by omega
  rcases this with rfl | rfl | rfl | rfl | rfl | rfl | rfl | rfl | rfl | rfl <;> rfl
theorem dec_size (n : Nat) : (decB n).size = 1 := rfl
def spB : ByteArray := ⟨#[32]⟩
def byB : ByteArray := ⟨#[32, 98, 121, 32]⟩
/-- a change's text -/
def noteT (x : Nt) : ByteArray := decB x.1 ++ spB ++ fmS (x.2.1 : Nat) ++ spB ++ decB x.2.2.1 ++ byB ++ decB x.2.2.2
def strL (nt : List Nt) : List Value := nt.map fun x => Value.string (noteT x)
theorem strL_snoc (nt : List Nt) (x : Nt) : strL (nt ++ [x]) = strL nt ++ [.string (noteT x)] := by simp [strL]
theorem fm_size {r : Nat} (h : r < 8192) : (fmS (r : Nat)).size ≤ 13 := by
  rw [fmS_on h]
  show (ltsN r).toArray.size ≤ 13
  rw [List.size_toArray]
  unfold ltsN
  split
  · decide
  · exact ltsF_len r 13
end
section
open Go.RowKit
set_option linter.unusedVariables false
set_option linter.unusedSimpArgs false
theorem pass_cls {n : Nat} {R : Nat → Nat → Nat} : ((((passL n (R, []) (edL n)).2.length : Nat) : Int) == 0) = clsB n R := by
  rw [Bool.eq_iff_iff, clsB_iff, beq_iff_eq]
  constructor
  · intro h
    exact (passL_quiet (s := (R, [])) (show (passL n (R, []) (edL n)).2.length = 0 by omega)).2
  · intro h
    rw [passL_stb (s := (R, [])) h]; rfl
theorem own_slice {w : World} {b T sz n : Nat} {v : Value} {xs : List Value} (h : w.ownsRow b T sz v n xs) : ∃ a c, v = .slice a n c := by
  rcases h.2 with ⟨hv, h0⟩ | ⟨g, cap, cur, hv, _⟩
  · exact ⟨_, _, by rw [hv, h0]⟩
  · exact ⟨_, _, hv⟩
end
end Go.Proofs.YtnogdjmciekieabDoor.C
