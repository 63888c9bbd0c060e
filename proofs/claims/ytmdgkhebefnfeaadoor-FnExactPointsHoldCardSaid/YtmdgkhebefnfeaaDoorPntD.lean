/- Networks of points as texts of digits. No program is named here. -/
import Derived.Test.YtmdgkhebefnfeaaDoorPntP
namespace Go.Proofs.YtmdgkhebefnfeaaDoor.C
open Go.RowKit
set_option linter.unusedVariables false
set_option linter.unusedSimpArgs false
/-- the digit of a set -/
def dg8 (k : Nat) : UInt8 := [48, 49, 50, 51, 52, 53, 54, 55].getD k 0
/-- the value of a byte as a digit of a set, -1 if it is none -/
def dgI (c : UInt8) : Int := if 48 ≤ c.toNat ∧ c.toNat ≤ 55 then (c.toNat : Int) - 48 else -1
theorem nat8 {k : Nat} (h : k < 8) : k = 0 ∨ k = 1 ∨ k = 2 ∨ k = 3 ∨ k = 4 ∨ k = 5 ∨ k = 6 ∨ k = 7 := by omega
theorem dg8_toNat {k : Nat} (h : k < 8) : (dg8 k).toNat = 48 + k := by
  rcases nat8 h with rfl | rfl | rfl | rfl | rfl | rfl | rfl | rfl <;> decide
theorem dgI_dg8 {k : Nat} (h : k < 8) : dgI (dg8 k) = k := by
  unfold dgI; rw [dg8_toNat h, if_pos (by omega)]; omega
theorem dgI_cases (c : UInt8) : dgI c = -1 ∨ ∃ k : Nat, k < 8 ∧ dg8 k = c ∧ dgI c = k := by
  unfold dgI
  split
  · rename_i h
    refine .inr ⟨c.toNat - 48, by omega, ?_, by omega⟩
    apply UInt8.toNat_inj.1
    rw [dg8_toNat (by omega)]; omega
  · exact .inl rfl
theorem dg8_inj {a b : Nat} (ha : a < 8) (hb : b < 8) (h : dg8 a = dg8 b) : a = b := by
  have h1 := dg8_toNat ha
  rw [h, dg8_toNat hb] at h1; omega
theorem pat_lt {n i k : Nat} (hi : i < n) (hk : k < n) : i * n + k < n * n := by
  have h1 : (i + 1) * n ≤ n * n := Nat.mul_le_mul_right n hi
  rw [Nat.add_mul] at h1; omega
theorem pat_div {n i k : Nat} (hk : k < n) : (i * n + k) / n = i ∧ (i * n + k) % n = k := by
  have hn : 0 < n := by omega
  refine ⟨?_, ?_⟩
  · rw [Nat.add_comm, Nat.add_mul_div_right _ _ hn, Nat.div_eq_of_lt hk]; omega
  · rw [Nat.add_comm, Nat.add_mul_mod_self_right, Nat.mod_eq_of_lt hk]
/-- the first m digits of a row of sets -/
def dgL (L : Nat → Nat) (m : Nat) : List UInt8 := (List.range m).map fun x => dg8 (L x)
def dgB (L : Nat → Nat) (m : Nat) : ByteArray := ⟨(dgL L m).toArray⟩
theorem dgL_len (L : Nat → Nat) (m : Nat) : (dgL L m).length = m := by simp [dgL]
theorem dgL_succ (L : Nat → Nat) (m : Nat) : dgL L (m + 1) = dgL L m ++ [dg8 (L m)] := by simp [dgL, List.range_succ]
theorem dgB_size (L : Nat → Nat) (m : Nat) : (dgB L m).size = m := by
  show (dgL L m).toArray.size = m
  rw [List.size_toArray, dgL_len]
theorem dgL_at (L : Nat → Nat) {m x : Nat} (h : x < m) : (dgL L m)[x]'(by rw [dgL_len]; exact h) = dg8 (L x) := by simp [dgL]
theorem dgB_at (L : Nat → Nat) {m x : Nat} (h : x < m) (h' : x < (dgB L m).size) : (dgB L m)[x] = dg8 (L x) := by
  show (dgL L m).toArray[x]'(by rw [List.size_toArray, dgL_len]; exact h) = _
  rw [List.getElem_toArray]
  exact dgL_at L h
theorem dgB_succ (L : Nat → Nat) (m : Nat) : dgB L m ++ ⟨#[dg8 (L m)]⟩ = dgB L (m + 1) := by
  apply ByteArray.ext
  rw [ByteArray.data_append]
  apply Array.ext'
  rw [Array.toList_append]
  show dgL L m ++ [dg8 (L m)] = dgL L (m + 1)
  rw [dgL_succ]
theorem dgB_congr {L K : Nat → Nat} {m : Nat} (h : ∀ x, x < m → L x = K x) : dgB L m = dgB K m := by
  unfold dgB dgL
  rw [List.map_congr_left fun x hx => by rw [h x (List.mem_range.1 hx)]]
theorem dgB_ext {s : ByteArray} {L : Nat → Nat} {m : Nat} (hs : s.size = m) (h : ∀ x (hx : x < s.size), s[x] = dg8 (L x)) : s = dgB L m := by
  apply ByteArray.ext
  apply Array.ext
  · exact hs.trans (dgB_size L m).symm
  · intro i h1 h2
    have h3 := h i h1
    have h4 := dgB_at L (m := m) (x := i) (by rw [← hs]; exact h1) h2
    exact h3.trans h4.symm
/-- a matrix as a row -/
def flP (n : Nat) (N : Nat → Nat → Nat) (x : Nat) : Nat := N (x / n) (x % n)
theorem flP_at {n i k : Nat} (N : Nat → Nat → Nat) (hk : k < n) : flP n N (i * n + k) = N i k := by
  unfold flP; rw [(pat_div hk).1, (pat_div hk).2]
/-- the text of a network's sets -/
def pntS (n : Nat) (N : Nat → Nat → Nat) : ByteArray := dgB (flP n N) (n * n)
theorem pntS_size (n : Nat) (N : Nat → Nat → Nat) : (pntS n N).size = n * n := dgB_size _ _
theorem pntS_at {n i k : Nat} (N : Nat → Nat → Nat) (hi : i < n) (hk : k < n) (h : i * n + k < (pntS n N).size) : (pntS n N)[i * n + k] = dg8 (N i k) := by
  have := dgB_at (flP n N) (pat_lt hi hk) h
  rw [flP_at N hk] at this
  exact this
theorem div_lt' {n x : Nat} (h : x < n * n) : x / n < n ∧ x % n < n ∧ x / n * n + x % n = x := by
  have hn : 0 < n := by
    rcases Nat.eq_zero_or_pos n with e | e
    · subst e; omega
    · exact e
  exact ⟨Nat.div_lt_of_lt_mul h, Nat.mod_lt _ hn, by rw [Nat.mul_comm]; exact Nat.div_add_mod x n⟩
theorem pntS_congr {n : Nat} {M N : Nat → Nat → Nat} (h : ∀ i k, i < n → k < n → M i k = N i k) : pntS n M = pntS n N :=
  dgB_congr fun x hx => h _ _ (div_lt' hx).1 (div_lt' hx).2.1
theorem pntS_inj {n : Nat} {M N : Nat → Nat → Nat} (hM : ∀ i k, i < n → k < n → M i k < 8) (hN : ∀ i k, i < n → k < n → N i k < 8) (h : pntS n M = pntS n N) {i k : Nat} (hi : i < n) (hk : k < n) : M i k = N i k := by
  have h1 := pntS_at M hi hk (by rw [pntS_size]; exact pat_lt hi hk)
  have h2 := pntS_at N hi hk (by rw [pntS_size]; exact pat_lt hi hk)
  refine dg8_inj (hM i k hi hk) (hN i k hi hk) (h1.symm.trans (Eq.trans ?_ h2))
  congr 1
theorem pntS_of {n : Nat} {N : Nat → Nat → Nat} {s : ByteArray} (hs : s.size = n * n) (h : ∀ i k, i < n → k < n → ∀ (hx : i * n + k < s.size), s[i * n + k] = dg8 (N i k)) : s = pntS n N :=
  dgB_ext hs fun x hx => by
    obtain ⟨h1, h2, h3⟩ := div_lt' (n := n) (x := x) (by rw [← hs]; exact hx)
    have := h _ _ h1 h2 (by rw [h3]; exact hx)
    simp only [h3] at this
    exact this
/-- the byte at a place -/
def bt (s : ByteArray) (x : Nat) : UInt8 := if h : x < s.size then s[x] else 0
theorem bt_at {s : ByteArray} {x : Nat} (h : x < s.size) : bt s x = s[x] := by unfold bt; rw [dif_pos h]
/-- the value of a byte, as a set -/
def dgN (c : UInt8) : Nat := (dgI c).toNat
/-- the matrix that a text tells -/
def pmx (n : Nat) (s : ByteArray) (i k : Nat) : Nat := dgN (bt s (i * n + k))
/-- what a place must have -/
def rowQ (n : Nat) (s : ByteArray) (i k : Nat) : Prop := 0 ≤ dgI (bt s (i * n + k)) ∧ (i = k → dgI (bt s (i * n + k)) = 2) ∧ dgI (bt s (k * n + i)) = ((tpn (dgN (bt s (i * n + k))) : Nat) : Int)
def PVp (z : Int) (s : ByteArray) : Prop := 1 ≤ z ∧ z ≤ 12 ∧ s.size = z.toNat * z.toNat ∧ ∀ i k, i < z.toNat → k < z.toNat → rowQ z.toNat s i k
open Classical in
/-- whether a network of points is valid -/
noncomputable def PV (z : Int) (s : ByteArray) : Bool := decide (PVp z s)
theorem PV_size {z : Int} {s : ByteArray} (h : ¬ (1 ≤ z ∧ z ≤ 12)) : PV z s = false := by
  unfold PV; rw [decide_eq_false_iff_not]; intro k; exact h ⟨k.1, k.2.1⟩
theorem PV_len {n : Nat} {s : ByteArray} (h : ¬ s.size = n * n) : PV n s = false := by
  unfold PV; rw [decide_eq_false_iff_not]; intro k; exact h (by have := k.2.2.1; simpa using this)
theorem PV_row {n : Nat} {s : ByteArray} {i k : Nat} (hi : i < n) (hk : k < n) (h : ¬ rowQ n s i k) : PV n s = false := by
  unfold PV; rw [decide_eq_false_iff_not]; intro q
  have := q.2.2.2 i k (by simpa using hi) (by simpa using hk)
  rw [Int.toNat_natCast] at this
  exact h this
theorem PV_all {n : Nat} {s : ByteArray} (h1 : 1 ≤ n) (h2 : n ≤ 12) (h3 : s.size = n * n) (h : ∀ i k, i < n → k < n → rowQ n s i k) : PV n s = true := by
  simp only [PV, decide_eq_true_eq]
  exact ⟨by omega, by omega, by rw [Int.toNat_natCast]; exact h3, by rw [Int.toNat_natCast]; exact h⟩
theorem dgI_nat {c : UInt8} (h : 0 ≤ dgI c) : dgN c < 8 ∧ dg8 (dgN c) = c ∧ dgI c = ((dgN c : Nat) : Int) := by
  rcases dgI_cases c with e | ⟨k, h1, h2, h3⟩
  · omega
  · have e : dgN c = k := by unfold dgN; rw [h3]; rfl
    rw [e]; exact ⟨h1, h2, h3⟩
theorem dgI_neg {c : UInt8} (h : ¬ 0 ≤ dgI c) : dgI c = -1 := by
  rcases dgI_cases c with e | ⟨k, h1, h2, h3⟩
  · exact e
  · omega
theorem bt_pnt {n i k : Nat} (N : Nat → Nat → Nat) (hi : i < n) (hk : k < n) : bt (pntS n N) (i * n + k) = dg8 (N i k) := by
  have h : i * n + k < (pntS n N).size := by rw [pntS_size]; exact pat_lt hi hk
  rw [bt_at h, pntS_at N hi hk h]
theorem pmx_pnt {n i k : Nat} {N : Nat → Nat → Nat} (h : OkP n N) (hi : i < n) (hk : k < n) : pmx n (pntS n N) i k = N i k := by
  unfold pmx dgN; rw [bt_pnt N hi hk, dgI_dg8 (h.lt i k hi hk)]; rfl
theorem PV_pnt {n : Nat} {N : Nat → Nat → Nat} (h : OkP n N) : PV n (pntS n N) = true := by
  refine PV_all h.one h.le (pntS_size n N) fun i k hi hk => ?_
  unfold rowQ dgN
  rw [bt_pnt N hi hk, bt_pnt N hk hi, dgI_dg8 (h.lt i k hi hk), dgI_dg8 (h.lt k i hk hi)]
  refine ⟨by omega, fun e => by subst e; rw [h.dia i hi]; rfl, ?_⟩
  rw [h.tur i k hi hk]; rfl
theorem PV_cases (z : Int) (s : ByteArray) : PV z s = false ∨ ∃ n N, OkP n N ∧ z = (n : Int) ∧ s = pntS n N := by
  by_cases h : PV z s = true
  · right
    simp only [PV, decide_eq_true_eq] at h
    obtain ⟨h1, h2, h3, h4⟩ := h
    refine ⟨z.toNat, pmx z.toNat s, ⟨by omega, by omega, fun i k hi hk => (dgI_nat (h4 i k hi hk).1).1, fun i hi => ?_, fun i k hi hk => ?_⟩, by omega, ?_⟩
    · have := (h4 i i hi hi).2.1 rfl
      unfold pmx dgN; rw [this]; rfl
    · have := (h4 i k hi hk).2.2
      show dgN _ = tpn (dgN _)
      conv => lhs; unfold dgN
      rw [this]; rfl
    · refine pntS_of h3 fun i k hi hk hx => ?_
      have := (dgI_nat (h4 i k hi hk).1).2.1
      rw [bt_at hx] at this
      show _ = dg8 (dgN (bt s (i * z.toNat + k)))
      rw [bt_at hx]; exact this.symm
  · left; simpa using h
/-- the network that the pairs i < k of a text tell -/
def upQ (f : Nat → Nat → Nat) (i k : Nat) : Nat := if i = k then 2 else if i < k then f i k else tpn (f k i)
theorem upQ_ok {n : Nat} {f : Nat → Nat → Nat} (h1 : 1 ≤ n) (h2 : n ≤ 12) (h : ∀ i k, i < k → k < n → f i k < 8) : OkP n (upQ f) where
  one := h1
  le := h2
  lt i k hi hk := by
    unfold upQ
    split
    · omega
    · split
      · rename_i e; exact h i k e hk
      · exact tpn_lt (h k i (by omega) hi)
  dia i _ := by simp [upQ]
  tur i k hi hk := by
    unfold upQ
    rcases Nat.lt_trichotomy i k with e | e | e
    · rw [if_neg (show ¬ k = i by omega), if_neg (show ¬ k < i by omega), if_neg (show ¬ i = k by omega), if_pos e]
    · subst e; rw [if_pos rfl]; rfl
    · rw [if_neg (show ¬ k = i by omega), if_pos e, if_neg (show ¬ i = k by omega), if_neg (show ¬ i < k by omega), tpn_tpn (h k i e hi)]
theorem upQ_same {n : Nat} {N : Nat → Nat → Nat} (h : OkP n N) {i k : Nat} (hi : i < n) (hk : k < n) : upQ N i k = N i k := by
  unfold upQ
  rcases Nat.lt_trichotomy i k with e | e | e
  · rw [if_neg (by omega), if_pos e]
  · subst e; rw [if_pos rfl, h.dia i hi]
  · rw [if_neg (by omega), if_neg (by omega), h.tur k i hk hi]
theorem upQ_congr {f g : Nat → Nat → Nat} {n : Nat} (h : ∀ i k, i < k → k < n → f i k = g i k) {i k : Nat} (hi : i < n) (hk : k < n) : upQ f i k = upQ g i k := by
  unfold upQ
  split
  · rfl
  · split
    · rename_i e; exact h i k e hk
    · rw [h k i (by omega) hi]
/-- a text is valid exactly if it is what its pairs i < k tell -/
theorem PV_up {n : Nat} {s : ByteArray} (h1 : 1 ≤ n) (h2 : n ≤ 12) (h : ∀ i k, i < k → k < n → 0 ≤ dgI (bt s (i * n + k))) : PV n s = decide (pntS n (upQ (pmx n s)) = s) := by
  have ho : OkP n (upQ (pmx n s)) := upQ_ok h1 h2 fun i k hik hk => (dgI_nat (h i k hik hk)).1
  by_cases e : pntS n (upQ (pmx n s)) = s
  · rw [decide_eq_true e]
    have := PV_pnt ho
    rw [e] at this
    exact this
  · rw [decide_eq_false e]
    rcases PV_cases n s with q | ⟨m, N, hN, hm, rfl⟩
    · exact q
    · exfalso
      obtain rfl : n = m := by omega
      apply e
      refine pntS_congr fun i k hi hk => ?_
      rw [upQ_congr (n := n) (g := N) (fun i k hik hk => pmx_pnt hN (by omega) hk) hi hk, upQ_same hN hi hk]
theorem PV_bad {n : Nat} {s : ByteArray} {i k : Nat} (hi : i < n) (hk : k < n) (h : dgI (bt s (i * n + k)) < 0) : PV n s = false := PV_row hi hk fun q => by have := q.1; omega
theorem putQ_up (f : Nat → Nat → Nat) {i k : Nat} (r : Nat) (h : i < k) : putQ (upQ f) i k r = upQ (fun a b => if a = i ∧ b = k then r else f a b) := by
  funext a b
  unfold putQ upQ
  by_cases e1 : a = i ∧ b = k
  · obtain ⟨rfl, rfl⟩ := e1
    rw [if_pos ⟨rfl, rfl⟩, if_neg (by omega), if_pos h]
    exact (if_pos ⟨rfl, rfl⟩).symm
  · rw [if_neg e1]
    by_cases e2 : a = k ∧ b = i
    · obtain ⟨rfl, rfl⟩ := e2
      rw [if_pos ⟨rfl, rfl⟩, if_neg (by omega), if_neg (by omega)]
      exact congrArg tpn (if_pos ⟨rfl, rfl⟩).symm
    · rw [if_neg e2]
      have h1 : (if a = i ∧ b = k then r else f a b) = f a b := if_neg e1
      have h2 : (if b = i ∧ a = k then r else f b a) = f b a := if_neg (fun q => e2 ⟨q.2, q.1⟩)
      simp only [h1, h2]
end Go.Proofs.YtmdgkhebefnfeaaDoor.C
