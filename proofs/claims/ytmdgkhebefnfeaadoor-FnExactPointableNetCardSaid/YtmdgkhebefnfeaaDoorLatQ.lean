/- Chapter 4's laws: nearly convex relations and those told by orders of ends, over all sets. No program is named here. -/
import Derived.Test.YtmdgkhebefnfeaaDoorLatN
namespace Go.Proofs.YtmdgkhebefnfeaaDoor.C
open Go.RowKit
set_option linter.unusedVariables false
set_option linter.unusedSimpArgs false
/-- a fact of all sets, in four parts -/
def quart (p : Nat → Bool) (i : Nat) : Bool := allB (fun a => allB (fun b => p (128 * (16 * i + a) + b)) 128) 16
theorem quart_of {p : Nat → Bool} (h0 : quart p 0 = true) (h1 : quart p 1 = true) (h2 : quart p 2 = true) (h3 : quart p 3 = true) (n : Nat) (hn : n < 8192) : p n = true := by
  have key : ∀ i, i < 4 → quart p i = true → n / 128 / 16 = i → p n = true := fun i _ h e => by
    have := allB_of (allB_of h (n / 128 % 16) (Nat.mod_lt _ (by omega))) (n % 128) (Nat.mod_lt _ (by omega))
    have e2 : 128 * (16 * i + n / 128 % 16) + n % 128 = n := by omega
    rwa [e2] at this
  obtain h | h | h | h : n / 128 / 16 = 0 ∨ n / 128 / 16 = 1 ∨ n / 128 / 16 = 2 ∨ n / 128 / 16 = 3 := by omega
  · exact key 0 (by omega) h0 h
  · exact key 1 (by omega) h1 h
  · exact key 2 (by omega) h2 h
  · exact key 3 (by omega) h3 h
/-- those nearly convex relations of which all are made by taking what is common -/
def pcI : List Nat := [3, 255, 975, 4095, 6143, 6144, 7679, 7800, 8063, 8127, 8159, 8160, 8183, 8189, 8190]
def capT (l : List Nat) (n : Nat) : Nat := l.foldl (fun a s => if n &&& s == n then a &&& s else a) 8191
theorem capT_test {l : List Nat} {n j : Nat} : (capT l n).testBit j = true ↔ (8191 : Nat).testBit j = true ∧ ∀ s ∈ l, n &&& s = n → s.testBit j = true := halfT_snd l 8191
theorem capT_and {l : List Nat} {a b : Nat} (ha : a < 8192) (hb : b < 8192) (h : capT l a = a) (h' : capT l b = b) : capT l (a &&& b) = a &&& b := by
  have hl : a &&& b < 8192 := Nat.lt_of_le_of_lt Nat.and_le_left ha
  refine Nat.eq_of_testBit_eq fun j => ?_
  rw [Bool.eq_iff_iff, capT_test]
  constructor
  · rintro ⟨h1, h2⟩
    have e1 : (capT l a).testBit j = true := capT_test.2 ⟨h1, fun s hs e => h2 s hs ((and_sub hl).2 fun i hi hb => (and_sub ha).1 e i hi (by rw [Nat.testBit_and, Bool.and_eq_true] at hb; exact hb.1))⟩
    have e2 : (capT l b).testBit j = true := capT_test.2 ⟨h1, fun s hs e => h2 s hs ((and_sub hl).2 fun i hi hb' => (and_sub hb).1 e i hi (by rw [Nat.testBit_and, Bool.and_eq_true] at hb'; exact hb'.2))⟩
    rw [h] at e1
    rw [h'] at e2
    rw [Nat.testBit_and, e1, e2]; rfl
  · intro h1
    have hj : j < 13 := bit_lt hl h1
    exact ⟨ones_test hj, fun s hs e => (and_sub hl).1 e j hj h1⟩
theorem pc_q0 : quart (fun n => pcT n == (capT pcI n == n)) 0 = true := by decide +kernel
theorem pc_q1 : quart (fun n => pcT n == (capT pcI n == n)) 1 = true := by decide +kernel
theorem pc_q2 : quart (fun n => pcT n == (capT pcI n == n)) 2 = true := by decide +kernel
theorem pc_q3 : quart (fun n => pcT n == (capT pcI n == n)) 3 = true := by decide +kernel
theorem pc_cap {n : Nat} (h : n < 8192) : PC n ↔ capT pcI n = n := by
  have := quart_of pc_q0 pc_q1 pc_q2 pc_q3 n h
  have e : pcT n = (capT pcI n == n) := by simpa using this
  rw [pc_t, e]; simp
theorem pc_and {a b : Nat} (ha : a < 8192) (hb : b < 8192) (h : PC a) (h' : PC b) : PC (a &&& b) :=
  (pc_cap (Nat.lt_of_le_of_lt Nat.and_le_left ha)).2 (capT_and ha hb ((pc_cap ha).1 h) ((pc_cap hb).1 h'))
/-! How free a relation is -/
def dimS (n k : Nat) : Int := (List.range k).foldl (fun a i => if n.testBit i then max a (dimN i) else a) (-1)
theorem dimS_hit {n k : Nat} (h : n.testBit k = true) : dimS n (k + 1) = max (dimS n k) (dimN k) := by simp [dimS, List.range_succ, h]
theorem dimS_miss {n k : Nat} (h : n.testBit k = false) : dimS n (k + 1) = dimS n k := by simp [dimS, List.range_succ, h]
def dimU (n : Nat) : Nat := if n &&& 5397 != 0 then 3 else if n &&& 2730 != 0 then 2 else if n &&& 64 != 0 then 1 else 0
theorem dimS_u {n : Nat} (h : n < 8192) : dimS n 13 + 1 = (dimU n : Nat) := by
  have := all8192_of (p := fun n => decide (dimS n 13 + 1 = (dimU n : Nat))) (by decide +kernel) n h
  exact of_decide_eq_true this
def gapT (n : Nat) : Bool := (fun m => m == 0 || decide (dimU m < dimU n)) (hullT n &&& (8191 - n))
theorem gap_q0 : quart (fun n => pcT n == gapT n) 0 = true := by decide +kernel
theorem gap_q1 : quart (fun n => pcT n == gapT n) 1 = true := by decide +kernel
theorem gap_q2 : quart (fun n => pcT n == gapT n) 2 = true := by decide +kernel
theorem gap_q3 : quart (fun n => pcT n == gapT n) 3 = true := by decide +kernel
/-- nearly convex: what is missing to the hull is less free -/
theorem gap_t {n : Nat} (h : n < 8192) : pcT n = (decide (hull n &&& othN n = 0) || decide (dimS (hull n &&& othN n) 13 < dimS n 13)) := by
  have := quart_of gap_q0 gap_q1 gap_q2 gap_q3 n h
  have e : pcT n = gapT n := by simpa using this
  have hm : hull n &&& othN n < 8192 := Nat.lt_of_le_of_lt Nat.and_le_left (hull_lt n)
  rw [e, gapT, ← hull_t h, Bool.eq_iff_iff]
  have h1 := dimS_u h
  have h2 := dimS_u hm
  have h3 : hull n &&& othN n = hull n &&& (8191 - n) := rfl
  rw [← h3]
  simp only [Bool.or_eq_true, beq_iff_eq, decide_eq_true_iff]
  constructor
  · rintro (h | h)
    · exact .inl h
    · exact .inr (by omega)
  · rintro (h | h)
    · exact .inl h
    · exact .inr (by omega)
/-! Relations told by orders of ends -/
def ptT (n : Nat) : Nat := ((if n &&& 391 != 0 then 391 else 0) ||| (if n &&& 584 != 0 then 584 else 0) ||| (if n &&& 7216 != 0 then 7216 else 0)) &&& ((if n &&& 2047 != 0 then 2047 else 0) ||| (if n &&& 2048 != 0 then 2048 else 0) ||| (if n &&& 4096 != 0 then 4096 else 0)) &&& ((if n &&& 1 != 0 then 1 else 0) ||| (if n &&& 2 != 0 then 2 else 0) ||| (if n &&& 8188 != 0 then 8188 else 0)) &&& ((if n &&& 31 != 0 then 31 else 0) ||| (if n &&& 224 != 0 then 224 else 0) ||| (if n &&& 7936 != 0 then 7936 else 0))
theorem pt_q0 : quart (fun n => !(ptT n == n) || pcT n) 0 = true := by decide +kernel
theorem pt_q1 : quart (fun n => !(ptT n == n) || pcT n) 1 = true := by decide +kernel
theorem pt_q2 : quart (fun n => !(ptT n == n) || pcT n) 2 = true := by decide +kernel
theorem pt_q3 : quart (fun n => !(ptT n == n) || pcT n) 3 = true := by decide +kernel
theorem pt_pc' {n : Nat} (h : n < 8192) (hp : ptT n = n) : PC n := by
  have := quart_of pt_q0 pt_q1 pt_q2 pt_q3 n h
  rw [pc_t]
  simpa [hp] using this
theorem pt_cv' : ∀ x ∈ cvL, ptT x = x := by decide +kernel
end Go.Proofs.YtmdgkhebefnfeaaDoor.C
