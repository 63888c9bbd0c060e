/- Networks as matrices of relations: digits of 16 values, what is valid. No program is named here. The edges of networks, and networks whose pairs are changed. No program is named here. -/
import Derived.Test.YtmdgkhebefnfeaaDoorRelM
namespace Go.Proofs.YtmdgkhebefnfeaaDoor.C
section
open Go.RowKit
set_option linter.unusedVariables false
set_option linter.unusedSimpArgs false
/-- the digit of a value -/
def hxd (k : Nat) : UInt8 := [48, 49, 50, 51, 52, 53, 54, 55, 56, 57, 97, 98, 99, 100, 101, 102].getD k 0
/-- the value of a digit, -1 if it is none -/
def hxI (c : UInt8) : Int := if 48 ≤ c.toNat ∧ c.toNat ≤ 57 then (c.toNat : Int) - 48 else if 97 ≤ c.toNat ∧ c.toNat ≤ 102 then (c.toNat : Int) - 87 else -1
theorem nat16 {k : Nat} (h : k < 16) : k = 0 ∨ k = 1 ∨ k = 2 ∨ k = 3 ∨ k = 4 ∨ k = 5 ∨ k = 6 ∨ k = 7 ∨ k = 8 ∨ k = 9 ∨ k = 10 ∨ k = 11 ∨ k = 12 ∨ k = 13 ∨ k = 14 ∨ k = 15 := by omega
theorem hxI_hxd {k : Nat} (h : k < 16) : hxI (hxd k) = k := by
  rcases nat16 h with rfl | rfl | rfl | rfl | rfl | rfl | rfl | rfl | rfl | rfl | rfl | rfl | rfl | rfl | rfl | rfl <;> decide
theorem hxI_cases (c : UInt8) : hxI c = -1 ∨ ∃ k : Nat, k < 16 ∧ hxd k = c ∧ hxI c = k := by
  unfold hxI
  split
  · rename_i h
    refine .inr ⟨c.toNat - 48, by omega, ?_, by omega⟩
    apply UInt8.toNat_inj.1
    have : c.toNat - 48 = 0 ∨ c.toNat - 48 = 1 ∨ c.toNat - 48 = 2 ∨ c.toNat - 48 = 3 ∨ c.toNat - 48 = 4 ∨ c.toNat - 48 = 5 ∨ c.toNat - 48 = 6 ∨ c.toNat - 48 = 7 ∨ c.toNat - 48 = 8 ∨ c.toNat - 48 = 9 := by omega
    rcases this with e | e | e | e | e | e | e | e | e | e <;> rw [e] <;> simp [hxd] <;> omega
  · split
    · rename_i h
      refine .inr ⟨c.toNat - 87, by omega, ?_, by omega⟩
      apply UInt8.toNat_inj.1
      have : c.toNat - 87 = 10 ∨ c.toNat - 87 = 11 ∨ c.toNat - 87 = 12 ∨ c.toNat - 87 = 13 ∨ c.toNat - 87 = 14 ∨ c.toNat - 87 = 15 := by omega
      rcases this with e | e | e | e | e | e <;> rw [e] <;> simp [hxd] <;> omega
    · exact .inl rfl
theorem hxI_miss {c : UInt8} (h : ∀ k, k < 16 → hxd k ≠ c) : hxI c = -1 := by
  rcases hxI_cases c with e | ⟨k, hk, he, _⟩
  · exact e
  · exact absurd he (h k hk)
theorem hxI_hit {c : UInt8} {k : Nat} (hk : k < 16) (h : hxd k = c) : hxI c = k := by rw [← h]; exact hxI_hxd hk
/-- one more digit: -1 stays -1 -/
def numS (a : Int) (c : UInt8) : Int := if a < 0 then -1 else if hxI c < 0 then -1 else 16 * a + hxI c
def numF (l : List UInt8) : Int := l.foldl numS 0
theorem numF_snoc (l : List UInt8) (c : UInt8) : numF (l ++ [c]) = numS (numF l) c := by simp [numF]
theorem num_stuck : ∀ (l : List UInt8), l.foldl numS (-1) = -1
  | [] => rfl
  | c :: l => by simp only [List.foldl_cons, numS]; exact num_stuck l
theorem numF_neg {l m : List UInt8} (h : numF l = -1) : numF (l ++ m) = -1 := by
  unfold numF at h ⊢
  rw [List.foldl_append, h, num_stuck]
theorem numS_on {a : Int} {c : UInt8} {k : Nat} (ha : 0 ≤ a) (h : hxI c = k) : numS a c = 16 * a + k := by
  unfold numS; rw [if_neg (by omega), if_neg (by omega), h]
theorem numS_off {a : Int} {c : UInt8} (h : hxI c = -1) : numS a c = -1 := by
  unfold numS; split
  · rfl
  · rw [if_pos (by omega)]
theorem numF_pow : ∀ (l : List UInt8), numF l = -1 ∨ (0 ≤ numF l ∧ numF l < 16 ^ l.length) := by
  intro l
  generalize hm : l.length = m
  induction m generalizing l with
  | zero =>
    obtain rfl := List.eq_nil_of_length_eq_zero hm
    exact .inr (by simp [numF])
  | succ m ih0 =>
    obtain ⟨l, c, rfl⟩ : ∃ l' c, l = l' ++ [c] := ⟨l.dropLast, l.getLast (by intro e; subst e; simp at hm), (List.dropLast_concat_getLast _).symm⟩
    have ih := ih0 l (by simpa using hm)
    rw [numF_snoc]
    rcases ih with h | ⟨h1, h2⟩
    · left; rw [h]; rfl
    · rcases hxI_cases c with e | ⟨k, hk, _, e⟩
      · exact .inl (numS_off e)
      · right
        rw [numS_on h1 e, Int.pow_succ]
        omega
/-- the number of a text of digits -/
def nb (s : ByteArray) : Int := numF s.data.toList
/-- a relation as four digits -/
def digL (r : Nat) : List UInt8 := [hxd (r / 4096 % 16), hxd (r / 256 % 16), hxd (r / 16 % 16), hxd (r % 16)]
def dig (r : Nat) : ByteArray := ⟨(digL r).toArray⟩
theorem dig_size (r : Nat) : (dig r).size = 4 := rfl
theorem nb_dig {r : Nat} (h : r < 65536) : nb (dig r) = r := by
  show numS (numS (numS (numS 0 _) _) _) _ = _
  have e1 := numS_on (a := 0) (by omega) (hxI_hxd (Nat.mod_lt (r / 4096) (show 0 < 16 by omega)))
  have e2 := numS_on (a := 16 * 0 + ((r / 4096 % 16 : Nat) : Int)) (by omega) (hxI_hxd (Nat.mod_lt (r / 256) (show 0 < 16 by omega)))
  have e3 := numS_on (a := 16 * (16 * 0 + ((r / 4096 % 16 : Nat) : Int)) + ((r / 256 % 16 : Nat) : Int)) (by omega) (hxI_hxd (Nat.mod_lt (r / 16) (show 0 < 16 by omega)))
  have e4 := numS_on (a := 16 * (16 * (16 * 0 + ((r / 4096 % 16 : Nat) : Int)) + ((r / 256 % 16 : Nat) : Int)) + ((r / 16 % 16 : Nat) : Int)) (by omega) (hxI_hxd (Nat.mod_lt r (show 0 < 16 by omega)))
  rw [e1, e2, e3, e4]
  omega
theorem four_bytes {s : ByteArray} (h : s.size = 4) : ∃ a b c d, s = ⟨#[a, b, c, d]⟩ := by
  obtain ⟨⟨l⟩⟩ := s
  match l, h with
  | [a, b, c, d], _ => exact ⟨a, b, c, d, rfl⟩
theorem dig_nb {s : ByteArray} {r : Nat} (h : s.size = 4) (hr : nb s = r) : dig r = s := by
  obtain ⟨a, b, c, d, rfl⟩ := four_bytes h
  have e : nb ⟨#[a, b, c, d]⟩ = numS (numS (numS (numS 0 a) b) c) d := rfl
  rw [e] at hr
  rcases hxI_cases a with h1 | ⟨k1, l1, g1, h1⟩
  · rw [numS_off h1] at hr; exact absurd (show (-1 : Int) = _ from hr) (by omega)
  rcases hxI_cases b with h2 | ⟨k2, l2, g2, h2⟩
  · rw [numS_off h2] at hr; exact absurd (show (-1 : Int) = _ from hr) (by omega)
  rcases hxI_cases c with h3 | ⟨k3, l3, g3, h3⟩
  · rw [numS_off h3] at hr; exact absurd (show (-1 : Int) = _ from hr) (by omega)
  rcases hxI_cases d with h4 | ⟨k4, l4, g4, h4⟩
  · rw [numS_off h4] at hr; omega
  rw [numS_on (by omega) h1, numS_on (by omega) h2, numS_on (by omega) h3, numS_on (by omega) h4] at hr
  unfold dig digL
  rw [show r / 4096 % 16 = k1 by omega, show r / 256 % 16 = k2 by omega, show r / 16 % 16 = k3 by omega, show r % 16 = k4 by omega, g1, g2, g3, g4]
theorem nb_inj {s t : ByteArray} (hs : s.size = 4) (ht : t.size = 4) {r : Nat} (h : nb s = r) (h' : nb t = r) : s = t := (dig_nb hs h).symm.trans (dig_nb ht h')
theorem dig_inj {a b : Nat} (ha : a < 65536) (hb : b < 65536) (h : dig a = dig b) : a = b := by
  have := nb_dig ha
  rw [h, nb_dig hb] at this
  omega
/-! Texts of some relations -/
def catD (l : List Nat) : List UInt8 := l.flatMap digL
theorem catD_len (l : List Nat) : (catD l).length = 4 * l.length := by
  induction l with
  | nil => rfl
  | cons a l ih => simp only [catD, List.flatMap_cons, List.length_append, List.length_cons] at *; rw [ih]; simp [digL]; omega
theorem catD_snoc (l : List Nat) (r : Nat) : catD (l ++ [r]) = catD l ++ digL r := by simp [catD]
theorem catD_chunk (l : List Nat) (x : Nat) (h : x < l.length) : ((catD l).drop (4 * x)).take 4 = digL (l.getD x 0) := by
  induction l generalizing x with
  | nil => simp at h
  | cons a l ih =>
    cases x with
    | zero => simp [catD, digL]
    | succ x =>
      have := ih x (by simpa using h)
      rw [show catD (a :: l) = digL a ++ catD l from rfl, List.drop_append, show 4 * (x + 1) - (digL a).length = 4 * x by simp [digL]; omega, List.drop_eq_nil_of_le (by simp [digL]; omega)]
      simpa using this
theorem cat_ext : ∀ (l : List Nat) (m : List UInt8), m.length = 4 * l.length → (∀ x, x < l.length → (m.drop (4 * x)).take 4 = digL (l.getD x 0)) → m = catD l
  | [], m, h, _ => by simp at h; rw [h]; rfl
  | a :: l, m, h, H => by
    have h0 := H 0 (by simp)
    simp only [Nat.mul_zero, List.drop_zero, List.getD_cons_zero] at h0
    have h1 := cat_ext l (m.drop 4) (by simp at h ⊢; omega) fun x hx => by
      have := H (x + 1) (by simpa using hx)
      rw [List.drop_drop, show 4 + 4 * x = 4 * (x + 1) by omega]
      simpa using this
    rw [show catD (a :: l) = digL a ++ catD l from rfl, ← h1, ← h0, List.take_append_drop]
/-- the four digits at a place -/
def dgs (s : ByteArray) (x : Nat) : ByteArray := s.extract (4 * x) (4 * x + 4)
theorem dgs_size {s : ByteArray} {x m : Nat} (h : s.size = 4 * m) (hx : x < m) : (dgs s x).size = 4 := by
  unfold dgs; rw [ByteArray.size_extract]; omega
theorem dgs_list (s : ByteArray) (x : Nat) : (dgs s x).data.toList = (s.data.toList.drop (4 * x)).take 4 := by
  unfold dgs
  rw [ByteArray.data_extract, Array.toList_extract, List.extract_eq_take_drop]
  congr 1; omega
/-- the first m relations of a matrix, row by row, with n in a row -/
def flt (n : Nat) (R : Nat → Nat → Nat) (m : Nat) : List Nat := (List.range m).map fun x => R (x / n) (x % n)
theorem flt_len (n : Nat) (R : Nat → Nat → Nat) (m : Nat) : (flt n R m).length = m := by simp [flt]
theorem flt_succ (n : Nat) (R : Nat → Nat → Nat) (m : Nat) : flt n R (m + 1) = flt n R m ++ [R (m / n) (m % n)] := by simp [flt, List.range_succ]
theorem flt_get (n : Nat) (R : Nat → Nat → Nat) {m x : Nat} (h : x < m) : (flt n R m).getD x 0 = R (x / n) (x % n) := by simp [flt, h]
def netB (n : Nat) (R : Nat → Nat → Nat) (m : Nat) : ByteArray := ⟨(catD (flt n R m)).toArray⟩
def netS (n : Nat) (R : Nat → Nat → Nat) : ByteArray := netB n R (n * n)
theorem netB_list (n : Nat) (R : Nat → Nat → Nat) (m : Nat) : (netB n R m).data.toList = catD (flt n R m) := by simp [netB]
theorem netB_size (n : Nat) (R : Nat → Nat → Nat) (m : Nat) : (netB n R m).size = 4 * m := by
  show (catD (flt n R m)).toArray.size = _
  rw [List.size_toArray, catD_len, flt_len]
theorem netS_size (n : Nat) (R : Nat → Nat → Nat) : (netS n R).size = 4 * (n * n) := netB_size n R _
theorem netB_succ (n : Nat) (R : Nat → Nat → Nat) (m : Nat) : netB n R m ++ dig (R (m / n) (m % n)) = netB n R (m + 1) := by
  apply ByteArray.ext
  rw [ByteArray.data_append]
  apply Array.ext'
  rw [Array.toList_append, netB_list, netB_list, flt_succ, catD_snoc]
  rfl
theorem dgs_net (n : Nat) (R : Nat → Nat → Nat) {x : Nat} (h : x < n * n) : dgs (netS n R) x = dig (R (x / n) (x % n)) := by
  apply ByteArray.ext
  apply Array.ext'
  rw [dgs_list, netS, netB_list, catD_chunk _ _ (by rw [flt_len]; exact h), flt_get n R h]
  rfl
theorem at_div {n i k : Nat} (hk : k < n) : (i * n + k) / n = i ∧ (i * n + k) % n = k := by
  have hn : 0 < n := by omega
  constructor
  · rw [Nat.mul_comm, Nat.mul_add_div hn, Nat.div_eq_of_lt hk, Nat.add_zero]
  · rw [Nat.mul_comm, Nat.mul_add_mod, Nat.mod_eq_of_lt hk]
theorem at_lt {n i k : Nat} (hi : i < n) (hk : k < n) : i * n + k < n * n := by
  have : i * n + n ≤ n * n := by
    have := Nat.mul_le_mul_right n (show i + 1 ≤ n from hi)
    rw [Nat.add_mul] at this; omega
  omega
theorem dgs_at (n : Nat) (R : Nat → Nat → Nat) {i k : Nat} (hi : i < n) (hk : k < n) : dgs (netS n R) (i * n + k) = dig (R i k) := by
  rw [dgs_net n R (at_lt hi hk), (at_div hk).1, (at_div hk).2]
/-! Valid networks -/
structure OkR (n : Nat) (R : Nat → Nat → Nat) : Prop where
  pos : 1 ≤ n
  le : n ≤ 6
  lt : ∀ i k, R i k < 8192
  off : ∀ i k, ¬ (i < n ∧ k < n) → R i k = 0
  one : ∀ i, i < n → R i i = 64
  tur : ∀ i k, i < n → k < n → R k i = turN (R i k)
/-- the relations of a text -/
def mx (n : Nat) (s : ByteArray) (i k : Nat) : Nat := if i < n ∧ k < n then (nb (dgs s (i * n + k))).toNat else 0
theorem mx_on {n : Nat} {s : ByteArray} {i k : Nat} (hi : i < n) (hk : k < n) : mx n s i k = (nb (dgs s (i * n + k))).toNat := if_pos ⟨hi, hk⟩
theorem mx_off {n : Nat} {s : ByteArray} {i k : Nat} (h : ¬ (i < n ∧ k < n)) : mx n s i k = 0 := if_neg h
theorem mx_net {n : Nat} {R : Nat → Nat → Nat} (h : OkR n R) : mx n (netS n R) = R := by
  funext i k
  by_cases hik : i < n ∧ k < n
  · rw [mx_on hik.1 hik.2, dgs_at n R hik.1 hik.2, nb_dig (by have := h.lt i k; omega)]; simp
  · rw [mx_off hik, h.off i k hik]
theorem mx_nb {n : Nat} {s : ByteArray} {i k : Nat} (hi : i < n) (hk : k < n) (h : rv (nb (dgs s (i * n + k))) = true) : nb (dgs s (i * n + k)) = mx n s i k ∧ mx n s i k < 8192 := by
  rw [mx_on hi hk]
  rw [rv_iff] at h
  omega
theorem netS_mx {n : Nat} {s : ByteArray} (hs : s.size = 4 * (n * n)) (hv : ∀ i k, i < n → k < n → rv (nb (dgs s (i * n + k))) = true) : netS n (mx n s) = s := by
  apply ByteArray.ext
  apply Array.ext'
  rw [netS, netB_list]
  refine (cat_ext _ _ ?_ ?_).symm
  · rw [flt_len, Array.length_toList]; exact hs
  · intro x hx
    rw [flt_len] at hx
    rw [flt_get _ _ hx, ← dgs_list]
    have hn : 0 < n := Nat.pos_of_ne_zero (fun e => by subst e; simp at hx)
    have hi : x / n < n := Nat.div_lt_of_lt_mul hx
    have hk : x % n < n := Nat.mod_lt _ hn
    have hx2 : x / n * n + x % n = x := by rw [Nat.mul_comm]; exact Nat.div_add_mod x n
    have := mx_nb hi hk (hv _ _ hi hk)
    rw [hx2] at this
    rw [← dig_nb (dgs_size hs hx) this.1]
    rfl
theorem tur64 : turN 64 = 64 := by decide +kernel
/-- what is checked of a text -/
structure Chk (n : Nat) (s : ByteArray) : Prop where
  size : s.size = 4 * (n * n)
  val : ∀ i k, i < n → k < n → rv (nb (dgs s (i * n + k))) = true
  one : ∀ i, i < n → mx n s i i = 64
  tur : ∀ i k, i < n → k < n → mx n s k i = turN (mx n s i k)
open Classical in
/-- a size and a text are a valid network -/
noncomputable def NV (z : Int) (s : ByteArray) : Bool := decide (∃ n R, OkR n R ∧ z = (n : Nat) ∧ s = netS n R)
theorem nv_iff {z : Int} {s : ByteArray} : NV z s = true ↔ ∃ n R, OkR n R ∧ z = (n : Nat) ∧ s = netS n R := by simp [NV]
theorem nv_cases (z : Int) (s : ByteArray) : NV z s = false ∨ ∃ n R, OkR n R ∧ z = (n : Nat) ∧ s = netS n R := by
  cases h : NV z s
  · exact .inl rfl
  · exact .inr (nv_iff.1 h)
theorem nv_net {n : Nat} {R : Nat → Nat → Nat} (h : OkR n R) : NV n (netS n R) = true := nv_iff.2 ⟨n, R, h, rfl, rfl⟩
theorem chk_net {n : Nat} {R : Nat → Nat → Nat} (h : OkR n R) : Chk n (netS n R) := by
  refine ⟨netS_size n R, fun i k hi hk => ?_, fun i hi => ?_, fun i k hi hk => ?_⟩
  · rw [dgs_at n R hi hk, nb_dig (by have := h.lt i k; omega)]; exact rv_nat _ (h.lt i k)
  · rw [mx_net h]; exact h.one i hi
  · rw [mx_net h]; exact h.tur i k hi hk
theorem okR_of {n : Nat} {s : ByteArray} (h1 : 1 ≤ n) (h6 : n ≤ 6) (h : Chk n s) : OkR n (mx n s) := by
  refine ⟨h1, h6, fun i k => ?_, fun i k h => mx_off h, h.one, h.tur⟩
  by_cases hik : i < n ∧ k < n
  · exact (mx_nb hik.1 hik.2 (h.val i k hik.1 hik.2)).2
  · rw [mx_off hik]; omega
theorem nv_chk {n : Nat} {s : ByteArray} (h1 : 1 ≤ n) (h6 : n ≤ 6) : NV n s = true ↔ Chk n s := by
  rw [nv_iff]
  constructor
  · rintro ⟨m, R, hR, e, rfl⟩
    obtain rfl : n = m := by omega
    exact chk_net hR
  · intro h
    exact ⟨n, mx n s, okR_of h1 h6 h, rfl, (netS_mx h.size h.val).symm⟩
theorem nv_no {n : Nat} {s : ByteArray} (h1 : 1 ≤ n) (h6 : n ≤ 6) (h : ¬ Chk n s) : NV n s = false := by
  cases e : NV n s
  · rfl
  · exact absurd ((nv_chk h1 h6).1 e) h
theorem nv_size {z : Int} {s : ByteArray} (h : ¬ (1 ≤ z ∧ z ≤ 6)) : NV z s = false := by
  rcases nv_cases z s with e | ⟨n, R, hR, rfl, _⟩
  · exact e
  · exact absurd (by have := hR.pos; have := hR.le; omega) h
theorem netS_inj {n : Nat} {R S : Nat → Nat → Nat} (hR : OkR n R) (hS : OkR n S) (h : netS n R = netS n S) : R = S := by
  rw [← mx_net hR, h, mx_net hS]
/-- one row of what the model checks -/
def rowOk (n : Nat) (s : ByteArray) (i k : Nat) : Prop := rv (nb (dgs s (i * n + k))) = true ∧ (i = k → nb (dgs s (i * n + k)) = 64) ∧ dig (turN (mx n s i k)) = dgs s (k * n + i)
theorem chk_rows {n : Nat} {s : ByteArray} (hs : s.size = 4 * (n * n)) : Chk n s ↔ ∀ i k, i < n → k < n → rowOk n s i k := by
  constructor
  · intro h i k hi hk
    have hv := mx_nb hi hk (h.val i k hi hk)
    have hv2 := mx_nb hk hi (h.val k i hk hi)
    refine ⟨h.val i k hi hk, fun e => ?_, ?_⟩
    · subst e; rw [hv.1, h.one i hi]; rfl
    · rw [← h.tur i k hi hk]
      exact dig_nb (dgs_size hs (at_lt hk hi)) hv2.1
  · intro H
    have hval : ∀ i k, i < n → k < n → rv (nb (dgs s (i * n + k))) = true := fun i k hi hk => (H i k hi hk).1
    refine ⟨hs, hval, fun i hi => ?_, fun i k hi hk => ?_⟩
    · have := (H i i hi hi).2.1 rfl
      rw [mx_on hi hi, this]; rfl
    · have h3 := (H i k hi hk).2.2
      have hv2 := mx_nb hk hi (hval k i hk hi)
      have := nb_dig (r := turN (mx n s i k)) (by have := turN_lt (mx n s i k); omega)
      rw [h3, hv2.1] at this
      omega
/-- .. and what the program checks: each edge from its lesser node -/
theorem chk_half {n : Nat} {s : ByteArray} (hs : s.size = 4 * (n * n)) (hv : ∀ i k, i < n → k < n → rv (nb (dgs s (i * n + k))) = true) (h1 : ∀ i, i < n → mx n s i i = 64)
    (h2 : ∀ i k, i < k → k < n → mx n s k i = turN (mx n s i k)) : Chk n s := by
  refine ⟨hs, hv, h1, fun i k hi hk => ?_⟩
  by_cases e : i = k
  · subst e; rw [h1 i hi, tur64]
  · by_cases l : i < k
    · exact h2 i k l hk
    · have e2 := h2 k i (by omega) hi
      have e3 := tt_n (mx_nb hk hi (hv k i hk hi)).2
      rw [← e2] at e3
      exact e3.symm
/-! Matrices that are changed -/
def upd (M : Nat → Nat → Nat) (i k v : Nat) : Nat → Nat → Nat := fun a b => if a = i ∧ b = k then v else M a b
theorem upd_at (M : Nat → Nat → Nat) (i k v : Nat) : upd M i k v i k = v := if_pos ⟨rfl, rfl⟩
theorem upd_ne (M : Nat → Nat → Nat) {i k a b v : Nat} (h : ¬ (a = i ∧ b = k)) : upd M i k v a b = M a b := if_neg h
/-- the free network -/
def freR (n i k : Nat) : Nat := if i < n ∧ k < n then (if i = k then 64 else 8191) else 0
theorem freR_one {n i : Nat} (hi : i < n) : freR n i i = 64 := by
  have h : i < n ∧ i < n := ⟨hi, hi⟩
  simp [freR, h]
theorem freR_all {n i k : Nat} (hi : i < n) (hk : k < n) (hne : i ≠ k) : freR n i k = 8191 := by
  have h : i < n ∧ k < n := ⟨hi, hk⟩
  simp [freR, h, hne]
theorem freR_off {n i k : Nat} (h : ¬ (i < n ∧ k < n)) : freR n i k = 0 := if_neg h
theorem freR_ok {n : Nat} (h1 : 1 ≤ n) (h6 : n ≤ 6) : OkR n (freR n) := by
  refine ⟨h1, h6, fun i k => ?_, fun i k h => freR_off h, fun i hi => freR_one hi, fun i k hi hk => ?_⟩
  · unfold freR; split
    · split <;> omega
    · omega
  · by_cases e : i = k
    · subst e; rw [freR_one hi, tur64]
    · rw [freR_all hi hk e, freR_all hk hi (fun h => e h.symm)]; decide +kernel
/-- another relation of two nodes -/
def putR (R : Nat → Nat → Nat) (i k r : Nat) : Nat → Nat → Nat := upd (upd R i k r) k i (turN r)
theorem putR_ok {n : Nat} {R : Nat → Nat → Nat} (h : OkR n R) {i k r : Nat} (hi : i < n) (hk : k < n) (hne : i ≠ k) (hr : r < 8192) : OkR n (putR R i k r) := by
  refine ⟨h.pos, h.le, fun a b => ?_, fun a b hab => ?_, fun a ha => ?_, fun a b ha hb => ?_⟩
  · unfold putR upd; split
    · exact turN_lt _
    · split
      · exact hr
      · exact h.lt a b
  · unfold putR upd; rw [if_neg (by rintro ⟨rfl, rfl⟩; exact hab ⟨hk, hi⟩), if_neg (by rintro ⟨rfl, rfl⟩; exact hab ⟨hi, hk⟩)]; exact h.off a b hab
  · unfold putR upd; rw [if_neg (by rintro ⟨rfl, e⟩; exact hne e.symm), if_neg (by rintro ⟨rfl, e⟩; exact hne e)]; exact h.one a ha
  · unfold putR upd
    by_cases e1 : a = i ∧ b = k
    · obtain ⟨rfl, rfl⟩ := e1
      rw [if_pos ⟨rfl, rfl⟩, if_neg (by rintro ⟨e, _⟩; omega), if_pos ⟨rfl, rfl⟩]
    · by_cases e2 : a = k ∧ b = i
      · obtain ⟨rfl, rfl⟩ := e2
        rw [if_neg (by rintro ⟨e, _⟩; omega), if_pos ⟨rfl, rfl⟩, if_pos ⟨rfl, rfl⟩, tt_n hr]
      · rw [if_neg (by rintro ⟨rfl, rfl⟩; exact e1 ⟨rfl, rfl⟩), if_neg (by rintro ⟨rfl, rfl⟩; exact e2 ⟨rfl, rfl⟩), if_neg e2, if_neg e1]
        exact h.tur a b ha hb
end
section
open Go.RowKit
set_option linter.unusedVariables false
set_option linter.unusedSimpArgs false
/-- edges from i to the m nodes behind it -/
def edI (i m : Nat) : List (Nat × Nat) := (List.range m).map fun j => (i, i + 1 + j)
/-- the edges whose lesser node is less than i -/
def edF (n : Nat) : Nat → List (Nat × Nat)
  | 0 => []
  | i + 1 => edF n i ++ edI i (n - 1 - i)
def edL (n : Nat) : List (Nat × Nat) := edF n n
theorem edI_len (i m : Nat) : (edI i m).length = m := by simp [edI]
theorem edI_succ (i m : Nat) : edI i (m + 1) = edI i m ++ [(i, i + 1 + m)] := by simp [edI, List.range_succ]
theorem edI_mem {i m : Nat} {p : Nat × Nat} : p ∈ edI i m ↔ p.1 = i ∧ i < p.2 ∧ p.2 < i + 1 + m := by
  simp only [edI, List.mem_map, List.mem_range]
  constructor
  · rintro ⟨j, h, rfl⟩
    exact ⟨rfl, by simp; omega, by simp; omega⟩
  · rintro ⟨rfl, h2, h3⟩
    refine ⟨p.2 - p.1 - 1, by omega, ?_⟩
    apply Prod.ext
    · rfl
    · simp; omega
theorem edF_mem {n : Nat} {p : Nat × Nat} : ∀ {i : Nat}, i ≤ n → (p ∈ edF n i ↔ p.1 < i ∧ p.1 < p.2 ∧ p.2 < n)
  | 0, _ => by simp [edF]
  | i + 1, h => by
    have ih := edF_mem (p := p) (i := i) (Nat.le_of_succ_le h)
    simp only [edF, List.mem_append, ih, edI_mem]
    omega
theorem edL_mem {n : Nat} {p : Nat × Nat} : p ∈ edL n ↔ p.1 < p.2 ∧ p.2 < n := by
  rw [edL, edF_mem (Nat.le_refl n)]; omega
theorem edF_len {n i : Nat} (hn : n ≤ 6) (hi : i ≤ n) : (edF n i).length ≤ 15 := by
  have h6 : n = 0 ∨ n = 1 ∨ n = 2 ∨ n = 3 ∨ n = 4 ∨ n = 5 ∨ n = 6 := by omega
  have hi6 : i = 0 ∨ i = 1 ∨ i = 2 ∨ i = 3 ∨ i = 4 ∨ i = 5 ∨ i = 6 := by omega
  rcases h6 with rfl | rfl | rfl | rfl | rfl | rfl | rfl <;> rcases hi6 with rfl | rfl | rfl | rfl | rfl | rfl | rfl <;> first | omega | decide +kernel
theorem edL_len {n : Nat} (hn : n ≤ 6) : (edL n).length ≤ 15 := edF_len hn (Nat.le_refl n)
theorem edF_one {n : Nat} : edF n (n - 1) = edL n ∨ n = 0 := by
  cases n with
  | zero => exact .inr rfl
  | succ n =>
    left
    show edF (n + 1) n = edF (n + 1) n ++ edI n (n + 1 - 1 - n)
    rw [show n + 1 - 1 - n = 0 by omega]; simp [edI]
theorem takeP (l : List (Nat × Nat)) (j : Nat) (h : j < l.length) : l.take (j + 1) = l.take j ++ [l.getD j (0, 0)] := by
  rw [List.take_succ_eq_append_getElem h]
  simp [List.getElem?_eq_getElem h]
theorem getP_mem {l : List (Nat × Nat)} {j : Nat} (h : j < l.length) : l.getD j (0, 0) ∈ l := by
  rw [List.getD_eq_getElem?_getD, List.getElem?_eq_getElem h]
  exact List.getElem_mem h
theorem edL_at {n j : Nat} (hj : j < (edL n).length) : ((edL n).getD j (0, 0)).1 < ((edL n).getD j (0, 0)).2 ∧ ((edL n).getD j (0, 0)).2 < n := edL_mem.1 (getP_mem hj)
/-! Networks whose pairs are changed, one by one -/
def chgR (R : Nat → Nat → Nat) (f : Nat → Nat → Nat) (l : List (Nat × Nat)) : Nat → Nat → Nat := l.foldl (fun M p => putR M p.1 p.2 (f p.1 p.2)) R
theorem chgR_snoc (R : Nat → Nat → Nat) (f : Nat → Nat → Nat) (l : List (Nat × Nat)) (p : Nat × Nat) : chgR R f (l ++ [p]) = putR (chgR R f l) p.1 p.2 (f p.1 p.2) := by simp [chgR]
def chR (n : Nat) (R : Nat → Nat → Nat) (f : Nat → Nat → Nat) : Nat → Nat → Nat := fun a b => if a < b ∧ b < n then f a b else if b < a ∧ a < n then turN (f b a) else R a b
theorem putR_at {R : Nat → Nat → Nat} {i k r a b : Nat} (h : i < k) : putR R i k r a b = if a = i ∧ b = k then r else if b = i ∧ a = k then turN r else R a b := by
  unfold putR upd
  by_cases e1 : a = k ∧ b = i
  · obtain ⟨rfl, rfl⟩ := e1
    rw [if_pos ⟨rfl, rfl⟩, if_neg (by omega), if_pos ⟨rfl, rfl⟩]
  · rw [if_neg e1]
    by_cases e2 : a = i ∧ b = k
    · rw [if_pos e2, if_pos e2]
    · rw [if_neg e2, if_neg e2, if_neg (by omega)]
theorem chgR_at {R : Nat → Nat → Nat} {f : Nat → Nat → Nat} {a b : Nat} : ∀ (m : Nat) {l : List (Nat × Nat)}, l.length = m → (∀ p ∈ l, p.1 < p.2) → chgR R f l a b = if (a, b) ∈ l then f a b else if (b, a) ∈ l then turN (f b a) else R a b
  | 0, l, h, _ => by
    obtain rfl := List.eq_nil_of_length_eq_zero h
    simp [chgR]
  | m + 1, l, h, H => by
    obtain ⟨l, p, rfl⟩ : ∃ l' p, l = l' ++ [p] := ⟨l.dropLast, l.getLast (by intro e; subst e; simp at h), (List.dropLast_concat_getLast _).symm⟩
    have hp := H p (by simp)
    rw [chgR_snoc, putR_at hp, chgR_at m (by simpa using h) fun q hq => H q (by simp [hq])]
    obtain ⟨i, k⟩ := p
    simp only at hp
    simp only [List.mem_append, List.mem_singleton, Prod.mk.injEq]
    by_cases e1 : a = i ∧ b = k
    · obtain ⟨rfl, rfl⟩ := e1
      simp
    · by_cases e2 : b = i ∧ a = k
      · obtain ⟨rfl, rfl⟩ := e2
        have hn : (a, b) ∉ l := fun hm => by have := H (a, b) (by simp [hm]); simp only at this; omega
        rw [if_neg e1, if_pos ⟨rfl, rfl⟩, if_neg (by simp only [not_or]; exact ⟨hn, e1⟩), if_pos (.inr ⟨rfl, rfl⟩)]
      · simp only [e1, e2, or_false, if_false]
theorem chgR_all {n : Nat} (R : Nat → Nat → Nat) (f : Nat → Nat → Nat) : chgR R f (edL n) = chR n R f := by
  funext a b
  rw [chgR_at _ rfl fun p hp => (edL_mem.1 hp).1]
  simp only [edL_mem]
  rfl
theorem chR_ok {n : Nat} {R : Nat → Nat → Nat} (h : OkR n R) {f : Nat → Nat → Nat} (hf : ∀ a b, a < b → b < n → f a b < 8192) : OkR n (chR n R f) := by
  refine ⟨h.pos, h.le, fun a b => ?_, fun a b hab => ?_, fun a ha => ?_, fun a b ha hb => ?_⟩
  · unfold chR; split
    · rename_i h1; exact hf a b h1.1 h1.2
    · split
      · exact turN_lt _
      · exact h.lt a b
  · unfold chR; rw [if_neg (by omega), if_neg (by omega)]; exact h.off a b hab
  · unfold chR; rw [if_neg (by omega), if_neg (by omega)]; exact h.one a ha
  · by_cases l : a < b
    · unfold chR; rw [if_neg (by omega), if_pos ⟨l, hb⟩, if_pos ⟨l, hb⟩]
    · by_cases l2 : b < a
      · unfold chR; rw [if_pos ⟨l2, ha⟩, if_neg (by omega), if_pos ⟨l2, ha⟩, tt_n (hf b a l2 ha)]
      · obtain rfl : a = b := by omega
        unfold chR; rw [if_neg (by omega), if_neg (by omega)]; exact h.tur a a ha ha
/-- two networks that agree on pairs agree -/
theorem okR_ext {n : Nat} {R S : Nat → Nat → Nat} (hR : OkR n R) (hS : OkR n S) (h : ∀ a b, a < b → b < n → R a b = S a b) : R = S := by
  funext a b
  by_cases hab : a < n ∧ b < n
  · by_cases l : a < b
    · exact h a b l hab.2
    · by_cases l2 : b < a
      · rw [hR.tur b a hab.2 hab.1, hS.tur b a hab.2 hab.1, h b a l2 hab.1]
      · obtain rfl : a = b := by omega
        rw [hR.one a hab.1, hS.one a hab.1]
  · rw [hR.off a b hab, hS.off a b hab]
theorem chR_pair {n : Nat} {R f : Nat → Nat → Nat} {a b : Nat} (h1 : a < b) (h2 : b < n) : chR n R f a b = f a b := if_pos ⟨h1, h2⟩
/-- all relations changed, in the square alone -/
def sqR (n : Nat) (f : Nat → Nat → Nat) : Nat → Nat → Nat := fun a b => if a < n ∧ b < n then f a b else 0
theorem sqR_on {n : Nat} {f : Nat → Nat → Nat} {a b : Nat} (h1 : a < n) (h2 : b < n) : sqR n f a b = f a b := if_pos ⟨h1, h2⟩
theorem sqR_off {n : Nat} {f : Nat → Nat → Nat} {a b : Nat} (h : ¬ (a < n ∧ b < n)) : sqR n f a b = 0 := if_neg h
theorem netB_congr {n m : Nat} {R S : Nat → Nat → Nat} (hm : m ≤ n * n) (h : ∀ a b, a < n → b < n → R a b = S a b) : netB n R m = netB n S m := by
  unfold netB
  congr 3
  unfold flt
  apply List.map_congr_left
  intro x hx
  have hx' : x < n * n := by have := List.mem_range.1 hx; omega
  have hn : 0 < n := Nat.pos_of_ne_zero (fun e => by subst e; simp at hx')
  exact h _ _ (Nat.div_lt_of_lt_mul hx') (Nat.mod_lt _ hn)
theorem netS_congr {n : Nat} {R S : Nat → Nat → Nat} (h : ∀ a b, a < n → b < n → R a b = S a b) : netS n R = netS n S := netB_congr (Nat.le_refl _) h
theorem netS_sq {n : Nat} (f : Nat → Nat → Nat) : netS n (sqR n f) = netS n f := netS_congr fun a b ha hb => sqR_on ha hb
/-! What is changed in this way -/
theorem and_lt {a b : Nat} (h : a < 8192) : a &&& b < 8192 := Nat.lt_of_le_of_lt Nat.and_le_left h
theorem tur_and {a b : Nat} (ha : a < 8192) (hb : b < 8192) : turN (a &&& b) = turN a &&& turN b :=
  set_ext (turN_lt _) (and_lt (turN_lt _)) fun j hj => by rw [turN_test hj, Nat.testBit_and, Nat.testBit_and, turN_test hj, turN_test hj]
theorem tur_pow {k : Nat} (h : k < 13) : turN (2 ^ k) = 2 ^ (12 - k) := by
  rcases nat13 h with rfl | rfl | rfl | rfl | rfl | rfl | rfl | rfl | rfl | rfl | rfl | rfl | rfl <;> decide +kernel
theorem mir64 : mirN 64 = 64 := by decide +kernel
theorem tur_all : turN 8191 = 8191 := by decide +kernel
def meetR (R S : Nat → Nat → Nat) : Nat → Nat → Nat := fun a b => R a b &&& S a b
theorem meetR_ok {n : Nat} {R S : Nat → Nat → Nat} (hR : OkR n R) (hS : OkR n S) : OkR n (meetR R S) := by
  refine ⟨hR.pos, hR.le, fun a b => and_lt (hR.lt a b), fun a b h => ?_, fun a ha => ?_, fun a b ha hb => ?_⟩
  · unfold meetR; rw [hR.off a b h]; simp
  · unfold meetR; rw [hR.one a ha, hS.one a ha]; rfl
  · unfold meetR; rw [hR.tur a b ha hb, hS.tur a b ha hb, tur_and (hR.lt a b) (hS.lt a b)]
def mirR (R : Nat → Nat → Nat) : Nat → Nat → Nat := fun a b => mirN (R a b)
theorem mir0 : mirN 0 = 0 := by decide +kernel
theorem mirR_ok {n : Nat} {R : Nat → Nat → Nat} (hR : OkR n R) : OkR n (mirR R) := by
  refine ⟨hR.pos, hR.le, fun a b => mirN_lt _, fun a b h => ?_, fun a ha => ?_, fun a b ha hb => ?_⟩
  · unfold mirR; rw [hR.off a b h, mir0]
  · unfold mirR; rw [hR.one a ha, mir64]
  · unfold mirR; rw [hR.tur a b ha hb]; exact (tm_n _).symm
def parR (m : Nat) (g : Nat → Nat) (R : Nat → Nat → Nat) : Nat → Nat → Nat := sqR m fun a b => R (g a) (g b)
theorem parR_ok {n m : Nat} {R : Nat → Nat → Nat} (hR : OkR n R) (h1 : 1 ≤ m) (h6 : m ≤ 6) {g : Nat → Nat} (hg : ∀ i, i < m → g i < n) : OkR m (parR m g R) := by
  refine ⟨h1, h6, fun a b => ?_, fun a b h => sqR_off h, fun a ha => ?_, fun a b ha hb => ?_⟩
  · unfold parR sqR; split
    · exact hR.lt _ _
    · omega
  · unfold parR; rw [sqR_on ha ha]; exact hR.one _ (hg a ha)
  · unfold parR; rw [sqR_on hb ha, sqR_on ha hb]; exact hR.tur _ _ (hg a ha) (hg b hb)
/-- the network of basic relations -/
def basR (n : Nat) (f : Nat → Nat → Nat) : Nat → Nat → Nat := sqR n fun a b => 2 ^ f a b
theorem basR_ok {n : Nat} (h1 : 1 ≤ n) (h6 : n ≤ 6) {f : Nat → Nat → Nat} (hf : ∀ a b, a < n → b < n → f a b < 13) (hs : ∀ a, a < n → f a a = 6) (ht : ∀ a b, a < n → b < n → f b a = 12 - f a b) : OkR n (basR n f) := by
  refine ⟨h1, h6, fun a b => ?_, fun a b h => sqR_off h, fun a ha => ?_, fun a b ha hb => ?_⟩
  · unfold basR sqR; split
    · rename_i h; exact pow_lt (hf a b h.1 h.2)
    · omega
  · unfold basR; rw [sqR_on ha ha, hs a ha]
  · unfold basR; rw [sqR_on hb ha, sqR_on ha hb, ht a b ha hb, tur_pow (hf a b ha hb)]
/-- the numbers of choices, multiplied -/
def prdL (R : Nat → Nat → Nat) (l : List (Nat × Nat)) : Nat := l.foldl (fun x p => x * onesN 13 (R p.1 p.2)) 1
theorem prdL_snoc (R : Nat → Nat → Nat) (l : List (Nat × Nat)) (p : Nat × Nat) : prdL R (l ++ [p]) = prdL R l * onesN 13 (R p.1 p.2) := by simp [prdL]
theorem prdL_le {R : Nat → Nat → Nat} (hR : ∀ a b, R a b < 8192) : ∀ (m : Nat) {l : List (Nat × Nat)}, l.length = m → prdL R l ≤ 13 ^ m
  | 0, l, h => by
    obtain rfl := List.eq_nil_of_length_eq_zero h
    simp [prdL]
  | m + 1, l, h => by
    obtain ⟨l, p, rfl⟩ : ∃ l' p, l = l' ++ [p] := ⟨l.dropLast, l.getLast (by intro e; subst e; simp at h), (List.dropLast_concat_getLast _).symm⟩
    rw [prdL_snoc, Nat.pow_succ]
    exact Nat.mul_le_mul (prdL_le hR m (by simpa using h)) (ones_le (hR _ _))
theorem prdL_lt {R : Nat → Nat → Nat} (hR : ∀ a b, R a b < 8192) {l : List (Nat × Nat)} (h : l.length ≤ 15) : prdL R l ≤ 51185893014090757 := by
  have h1 := prdL_le hR _ (rfl : l.length = l.length)
  have h2 : 13 ^ l.length ≤ 13 ^ 15 := Nat.pow_le_pow_right (by omega) h
  have h3 : (13 : Nat) ^ 15 = 51185893014090757 := by decide +kernel
  omega
/-- a network lies within another one -/
def witB (R S : Nat → Nat → Nat) (l : List (Nat × Nat)) : Bool := l.all fun p => decide (R p.1 p.2 &&& S p.1 p.2 = R p.1 p.2)
theorem wit_meet {n : Nat} {R S : Nat → Nat → Nat} (hR : OkR n R) (hS : OkR n S) : witB R S (edL n) = true ↔ meetR R S = R := by
  constructor
  · intro h
    refine okR_ext (meetR_ok hR hS) hR fun a b ha hb => ?_
    have := List.all_eq_true.1 h (a, b) (edL_mem.2 ⟨ha, hb⟩)
    exact of_decide_eq_true this
  · intro h
    refine List.all_eq_true.2 fun p _ => ?_
    have := congrFun (congrFun h p.1) p.2
    simpa [meetR] using this
end
end Go.Proofs.YtmdgkhebefnfeaaDoor.C
