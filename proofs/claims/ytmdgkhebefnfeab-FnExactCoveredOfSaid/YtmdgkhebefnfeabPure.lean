/- The plain functions that the walks of this seat compute: no program is named here. -/
import Derived.RowKit
namespace Go.Proofs.Ytmdgkhebefnfeab.C
set_option linter.unusedVariables false

/-! Chapter 1: points -/
/-- between two numbers -/
def btw (lo a hi : Int) : Bool := decide (lo ≤ a ∧ a ≤ hi)
/-- a set of orders -/
def pv (r : Int) : Bool := btw 0 r 7
/-- a point of time -/
def tm (x : Int) : Bool := btw (-1000000) x 1000000
/-- the order of two numbers -/
def ord (x y : Int) : Int := if x < y then 1 else if x = y then 2 else 4
/-- the order of two points, 0 for others -/
def oof (x y : Int) : Int := if tm x && tm y then ord x y else 0

theorem ord_cases (x y : Int) : ord x y = 1 ∨ ord x y = 2 ∨ ord x y = 4 := by
  unfold ord; split
  · exact .inl rfl
  · split
    · exact .inr (.inl rfl)
    · exact .inr (.inr rfl)
theorem ord_lt {x y : Int} (h : x < y) : ord x y = 1 := by unfold ord; rw [if_pos h]
theorem ord_eq {x y : Int} (h : x = y) : ord x y = 2 := by unfold ord; rw [if_neg (by omega), if_pos h]
theorem ord_gt {x y : Int} (h : y < x) : ord x y = 4 := by unfold ord; rw [if_neg (by omega), if_neg (by omega)]
theorem pv_true {r : Int} (a : 0 ≤ r) (b : r ≤ 7) : pv r = true := by simp [pv, btw, a, b]
theorem pv_iff (r : Int) : pv r = true ↔ 0 ≤ r ∧ r ≤ 7 := by simp [pv, btw]
theorem pv_low {r : Int} (a : r < 0) : pv r = false := by simp [pv, btw]; omega
theorem pv_high {r : Int} (a : 7 < r) : pv r = false := by simp [pv, btw]; omega
theorem tm_iff (x : Int) : tm x = true ↔ -1000000 ≤ x ∧ x ≤ 1000000 := by simp [tm, btw]
theorem tm_low {r : Int} (a : r < -1000000) : tm r = false := by simp [tm, btw]; omega
theorem tm_high {r : Int} (a : 1000000 < r) : tm r = false := by simp [tm, btw]; omega
theorem oof_tt {x y : Int} (a : tm x = true) (b : tm y = true) : oof x y = ord x y := by simp [oof, a, b]
theorem oof_f1 {x y : Int} (a : tm x = false) : oof x y = 0 := by simp [oof, a]
theorem oof_f2 {x y : Int} (b : tm y = false) : oof x y = 0 := by simp [oof, b]
theorem oof_cases (x y : Int) : oof x y = 0 ∨ oof x y = 1 ∨ oof x y = 2 ∨ oof x y = 4 := by
  unfold oof; split
  · exact .inr (ord_cases x y)
  · exact .inl rfl
theorem pv_cases {r : Int} (h : pv r = true) : r = 0 ∨ r = 1 ∨ r = 2 ∨ r = 3 ∨ r = 4 ∨ r = 5 ∨ r = 6 ∨ r = 7 := by
  rw [pv_iff] at h; omega
/-- a set of orders that holds an order -/
def ph (r x y : Int) : Bool := pv r && (bits .and .i64 r (oof x y) != 0)
theorem ph_off {r x y : Int} (h : pv r = false) : ph r x y = false := by simp [ph, h]
theorem ph_on {r x y : Int} (h : pv r = true) : ph r x y = (bits .and .i64 r (oof x y) != 0) := by simp [ph, h]
/-- how many orders a set has, -1 for others -/
def cnt (r : Int) : Int := if pv r then r % 2 + r / 2 % 2 + r / 4 else -1
theorem cnt_off {r : Int} (h : pv r = false) : cnt r = -1 := by simp [cnt, h]
theorem cnt_on {r : Int} (h : pv r = true) : cnt r = r % 2 + r / 2 % 2 + r / 4 := by simp [cnt, h]
/-- does a set hold an order (1, 2 or 4)? -/
def hs (r o : Int) : Bool := decide (r / o % 2 = 1)
/-- one of the three orders -/
def Ord (o : Int) : Prop := o = 1 ∨ o = 2 ∨ o = 4
theorem ord_Ord (x y : Int) : Ord (ord x y) := ord_cases x y
/-- the set of the turned orders -/
def tp (r : Int) : Int := r % 2 * 4 + r / 2 % 2 * 2 + r / 4
theorem hs_bits {r o : Int} (h : pv r = true) (ho : Ord o) : (bits .and .i64 r o != 0) = hs r o := by
  rcases pv_cases h with rfl | rfl | rfl | rfl | rfl | rfl | rfl | rfl <;> rcases ho with rfl | rfl | rfl <;> decide +kernel
/-- the orders in their order -/
def oat : Nat → Int
  | 0 => 1
  | 1 => 2
  | _ => 4
theorem oat_Ord : ∀ i : Nat, Ord (oat i)
  | 0 => .inl rfl
  | 1 => .inr (.inl rfl)
  | _ + 2 => .inr (.inr rfl)
/-- what two orders leave -/
def othen (o p : Int) : Int := if o = 2 then p else if p = 2 ∨ o = p then o else 7
def bor (a b : Int) : Int := bits .or .i64 a b
def tstep (s t acc o p : Int) : Int := if hs s o && hs t p then bor acc (othen o p) else acc
def thnJ (s t acc o : Int) : Nat → Int
  | 0 => acc
  | j + 1 => tstep s t (thnJ s t acc o j) o (oat j)
def thnI (s t : Int) : Nat → Int
  | 0 => 0
  | i + 1 => thnJ s t (thnI s t i) (oat i) 3
/-- composed sets -/
def cps (s t : Int) : Int := thnI s t 3
def tpp (r : Int) : Int := if pv r then tp r else -1
theorem tpp_off {r : Int} (h : pv r = false) : tpp r = -1 := by simp [tpp, h]
theorem tpp_on {r : Int} (h : pv r = true) : tpp r = tp r := by simp [tpp, h]
def cpp (r s : Int) : Int := if pv r && pv s then cps r s else -1
theorem cpp_off1 {r s : Int} (h : pv r = false) : cpp r s = -1 := by simp [cpp, h]
theorem cpp_off2 {r s : Int} (h : pv s = false) : cpp r s = -1 := by simp [cpp, h]
theorem cpp_on {r s : Int} (h : pv r = true) (h' : pv s = true) : cpp r s = cps r s := by simp [cpp, h, h']
/-- composed sets, as the model finds them: by five numbers on each side -/
def sstep (r s acc x y : Int) : Int := if (bits .and .i64 r (ord x 2) != 0) && (bits .and .i64 s (ord 2 y) != 0) then bor acc (ord x y) else acc
def scJ (r s acc : Int) (x : Nat) : Nat → Int
  | 0 => acc
  | y + 1 => sstep r s (scJ r s acc x y) x y
def scI (r s : Int) : Nat → Int
  | 0 => 0
  | x + 1 => scJ r s (scI r s x) x 5
theorem scI_cps {r s : Int} (h : pv r = true) (h' : pv s = true) : scI r s 5 = cps r s := by
  rcases pv_cases h with rfl | rfl | rfl | rfl | rfl | rfl | rfl | rfl <;> rcases pv_cases h' with rfl | rfl | rfl | rfl | rfl | rfl | rfl | rfl <;> decide +kernel
theorem oof_pts {x y : Int} (h : oof x y ≠ 0) : tm x = true ∧ tm y = true := by
  unfold oof at h
  split at h
  · rename_i c; simpa using c
  · exact absurd rfl h
theorem ord_turn (x y : Int) : ord y x = tp (ord x y) := by
  rcases Int.lt_trichotomy x y with h | h | h
  · rw [ord_lt h, ord_gt h]; decide
  · rw [ord_eq h, ord_eq h.symm]; decide
  · rw [ord_gt h, ord_lt h]; decide
theorem oof_ord {x y : Int} (h : oof x y ≠ 0) : oof x y = ord x y := oof_tt (oof_pts h).1 (oof_pts h).2
theorem oof_turn {x y : Int} (h : oof x y ≠ 0) : oof y x = tpp (oof x y) := by
  have h1 := oof_pts h
  rw [oof_tt h1.2 h1.1, oof_ord h, ord_turn x y]
  rcases ord_cases x y with e | e | e <;> rw [e] <;> decide +kernel
theorem cnt_oof {x y : Int} (h : oof x y ≠ 0) : cnt (oof x y) = 1 := by
  rw [oof_ord h]
  rcases ord_cases x y with e | e | e <;> rw [e] <;> decide +kernel
theorem tpp_pv {r : Int} (h : pv r = true) : pv (tpp r) = true := by
  rcases pv_cases h with rfl | rfl | rfl | rfl | rfl | rfl | rfl | rfl <;> decide +kernel
theorem ph_turn {r x y : Int} (h : pv r = true) (hn : oof x y ≠ 0) : ph (tpp r) y x = ph r x y := by
  rw [ph_on h, ph_on (tpp_pv h), oof_turn hn, oof_ord hn]
  rcases pv_cases h with rfl | rfl | rfl | rfl | rfl | rfl | rfl | rfl <;> rcases ord_cases x y with e | e | e <;> rw [e] <;> decide +kernel
theorem pv_nat {k : Nat} (h : k < 8) : pv (k : Int) = true := pv_true (by omega) (by omega)
/-- the text of a set of orders -/
def fpl (r : Int) : List UInt8 := if r = 0 then [45] else (if hs r 1 then [60] else []) ++ (if hs r 2 then [61] else []) ++ (if hs r 4 then [62] else [])
def fpt (r : Int) : ByteArray := ⟨(if pv r then fpl r else []).toArray⟩
theorem fpt_off {r : Int} (h : pv r = false) : fpt r = ⟨#[]⟩ := by simp [fpt, h]
theorem fpt_on {r : Int} (h : pv r = true) : fpt r = ⟨(fpl r).toArray⟩ := by simp [fpt, h]

/-! Chapter 2: intervals -/
/-- a valid interval -/
def iv (f t : Int) : Bool := tm f && tm t && decide (f < t)
theorem iv_iff (f t : Int) : iv f t = true ↔ -1000000 ≤ f ∧ f < t ∧ t ≤ 1000000 := by
  simp only [iv, Bool.and_eq_true, tm_iff, decide_eq_true_eq]; omega
theorem iv_f1 {f t : Int} (h : tm f = false) : iv f t = false := by simp [iv, h]
theorem iv_f2 {f t : Int} (h : tm t = false) : iv f t = false := by simp [iv, h]
theorem iv_f3 {f t : Int} (h : ¬ f < t) : iv f t = false := by simp [iv, h]
theorem iv_t {f t : Int} (h : tm f = true) (h' : tm t = true) (h'' : f < t) : iv f t = true := by simp [iv, h, h', h'']
/-- the length -/
def ilen (f t : Int) : Int := if iv f t then t - f else -1
theorem ilen_off {f t : Int} (h : iv f t = false) : ilen f t = -1 := by simp [ilen, h]
theorem ilen_on {f t : Int} (h : iv f t = true) : ilen f t = t - f := by simp [ilen, h]
theorem iv_off_iff (f t : Int) : iv f t = false ↔ ¬ (-1000000 ≤ f ∧ f < t ∧ t ≤ 1000000) := by rw [← iv_iff]; simp
/-- both are valid -/
def bo (a b c d : Int) : Bool := iv a b && iv c d
theorem bo_iff (a b c d : Int) : bo a b c d = true ↔ (-1000000 ≤ a ∧ a < b ∧ b ≤ 1000000) ∧ -1000000 ≤ c ∧ c < d ∧ d ≤ 1000000 := by simp only [bo, Bool.and_eq_true, iv_iff]
theorem bo_off_iff (a b c d : Int) : bo a b c d = false ↔ ¬ ((-1000000 ≤ a ∧ a < b ∧ b ≤ 1000000) ∧ -1000000 ≤ c ∧ c < d ∧ d ≤ 1000000) := by rw [← bo_iff]; simp
/-- what two intervals have in common -/
def mtP (a b c d : Int) : Prop := ((-1000000 ≤ a ∧ a < b ∧ b ≤ 1000000) ∧ -1000000 ≤ c ∧ c < d ∧ d ≤ 1000000) ∧ max a c < min b d
instance (a b c d : Int) : Decidable (mtP a b c d) := by unfold mtP; infer_instance
def mtB (a b c d : Int) : Bool := decide (mtP a b c d)
def mtF (a b c d : Int) : Int := if mtP a b c d then max a c else 0
def mtT (a b c d : Int) : Int := if mtP a b c d then min b d else 0
/-- the hull of two intervals -/
def huF (a b c d : Int) : Int := if bo a b c d then min a c else 0
def huT (a b c d : Int) : Int := if bo a b c d then max b d else 0
/-- the mirrored interval -/
def miF (a b : Int) : Int := if iv a b then -b else 0
def miT (a b : Int) : Int := if iv a b then -a else 0
theorem mt_on {a b c d : Int} (h : mtP a b c d) : mtB a b c d = true ∧ mtF a b c d = max a c ∧ mtT a b c d = min b d := by simp [mtB, mtF, mtT, h]
theorem mt_off {a b c d : Int} (h : ¬ mtP a b c d) : mtB a b c d = false ∧ mtF a b c d = 0 ∧ mtT a b c d = 0 := by simp [mtB, mtF, mtT, h]

/-- the first number from k on, of n, that fits -/
def firstF (p : Nat → Bool) : Nat → Nat → Int × Bool
  | _, 0 => (0, false)
  | k, n + 1 => if p k then ((k : Int), true) else firstF p (k + 1) n
theorem firstF_hit {p : Nat → Bool} {k n : Nat} (h : p k = true) : firstF p k (n + 1) = ((k : Int), true) := by simp [firstF, h]
theorem firstF_miss {p : Nat → Bool} {k n : Nat} (h : p k = false) : firstF p k (n + 1) = firstF p (k + 1) n := by simp [firstF, h]
/-- the letters of the basic relations, and the zones of both ends -/
def ltb : Nat → UInt8
  | 0 => 98 | 1 => 109 | 2 => 111 | 3 => 115 | 4 => 100 | 5 => 102 | 6 => 101 | 7 => 70 | 8 => 68 | 9 => 83 | 10 => 79 | 11 => 77 | _ => 66
def ltr (k : Nat) : ByteArray := ⟨#[ltb k]⟩
def zf : Nat → Int
  | 0 => 0 | 1 => 0 | 2 => 0 | 3 => 1 | 4 => 2 | 5 => 2 | 6 => 1 | 7 => 0 | 8 => 0 | 9 => 1 | 10 => 2 | 11 => 3 | _ => 4
def zt : Nat → Int
  | 0 => 0 | 1 => 1 | 2 => 2 | 3 => 2 | 4 => 2 | 5 => 3 | 6 => 3 | 7 => 3 | 8 => 4 | 9 => 4 | 10 => 4 | 11 => 4 | _ => 4
theorem nat13 {k : Nat} (h : k < 13) : k = 0 ∨ k = 1 ∨ k = 2 ∨ k = 3 ∨ k = 4 ∨ k = 5 ∨ k = 6 ∨ k = 7 ∨ k = 8 ∨ k = 9 ∨ k = 10 ∨ k = 11 ∨ k = 12 := by omega
/-- the number of a letter, and whether it is one -/
def pl (s : ByteArray) (k : Nat) : Bool := decide (ltr k = s)
def lix (s : ByteArray) : Int × Bool := firstF (pl s) 0 13
/-- .. or -1 -/
def lixI (s : ByteArray) : Int := if (lix s).2 then (lix s).1 else -1
/-- the basic relation of two zones, and whether there is one -/
def pz (f t : Int) (k : Nat) : Bool := decide (zf k = f) && decide (zt k = t)
def bat (f t : Int) : Int × Bool := firstF (pz f t) 0 13
def batI (f t : Int) : Int := if (bat f t).2 then (bat f t).1 else -1
/-- the letter of a number, nothing for -1 -/
def ltrI (i : Int) : ByteArray := if i < 0 then ⟨#[]⟩ else ltr i.toNat
theorem ltrI_nat (k : Nat) : ltrI k = ltr k := by unfold ltrI; rw [if_neg (by omega), Int.toNat_natCast]
def zfI (i : Int) : Int := if i < 0 then -1 else zf i.toNat
def ztI (i : Int) : Int := if i < 0 then -1 else zt i.toNat
theorem zfI_nat (k : Nat) : zfI k = zf k := by unfold zfI; rw [if_neg (by omega), Int.toNat_natCast]
theorem ztI_nat (k : Nat) : ztI k = zt k := by unfold ztI; rw [if_neg (by omega), Int.toNat_natCast]
theorem lixI_hit {s : ByteArray} {k : Nat} (h : lix s = ((k : Int), true)) : lixI s = k := by rw [lixI, h]; rfl
theorem lixI_miss {s : ByteArray} (h : lix s = (0, false)) : lixI s = -1 := by rw [lixI, h]; rfl
theorem batI_hit {f t : Int} {k : Nat} (h : bat f t = ((k : Int), true)) : batI f t = k := by rw [batI, h]; rfl
theorem batI_miss {f t : Int} (h : bat f t = (0, false)) : batI f t = -1 := by rw [batI, h]; rfl
theorem firstF_cases (p : Nat → Bool) : ∀ (n k : Nat), (∃ j, k ≤ j ∧ j < k + n ∧ p j = true ∧ firstF p k n = ((j : Int), true)) ∨ ((∀ j, k ≤ j → j < k + n → p j = false) ∧ firstF p k n = (0, false))
  | 0, k => .inr ⟨fun j _ _ => by omega, rfl⟩
  | n + 1, k => by
    cases h : p k
    · rw [firstF_miss h]
      rcases firstF_cases p n (k + 1) with ⟨j, h1, h2, h3, h4⟩ | ⟨h1, h2⟩
      · exact .inl ⟨j, by omega, by omega, h3, h4⟩
      · exact .inr ⟨fun j a b => by
          by_cases e : j = k
          · rw [e]; exact h
          · exact h1 j (by omega) (by omega), h2⟩
    · rw [firstF_hit h]
      exact .inl ⟨k, by omega, by omega, h, rfl⟩
theorem ltr_inj : ∀ j : Fin 13, ∀ k : Fin 13, ltb j = ltb k → j = k := by decide
theorem lix_ltr {k : Nat} (h : k < 13) : lix (ltr k) = ((k : Int), true) := by
  rcases nat13 h with rfl | rfl | rfl | rfl | rfl | rfl | rfl | rfl | rfl | rfl | rfl | rfl | rfl <;> decide +kernel
theorem lix_cases (s : ByteArray) : (∃ k, k < 13 ∧ s = ltr k ∧ lix s = ((k : Int), true)) ∨ ((∀ k, k < 13 → ltr k ≠ s) ∧ lix s = (0, false)) := by
  rcases firstF_cases (pl s) 13 0 with ⟨j, _, h2, h3, h4⟩ | ⟨h1, h2⟩
  · exact .inl ⟨j, by omega, (of_decide_eq_true h3).symm, h4⟩
  · exact .inr ⟨fun k hk => of_decide_eq_false (h1 k (by omega) (by omega)), h2⟩
theorem bat_cases (f t : Int) : (∃ k, k < 13 ∧ zf k = f ∧ zt k = t ∧ bat f t = ((k : Int), true)) ∨ ((∀ k, k < 13 → ¬ (zf k = f ∧ zt k = t)) ∧ bat f t = (0, false)) := by
  rcases firstF_cases (pz f t) 13 0 with ⟨j, _, h2, h3, h4⟩ | ⟨h1, h2⟩
  · simp only [pz, Bool.and_eq_true, decide_eq_true_eq] at h3
    exact .inl ⟨j, by omega, h3.1, h3.2, h4⟩
  · refine .inr ⟨fun k hk => ?_, h2⟩
    have := h1 k (by omega) (by omega)
    simp only [pz, Bool.and_eq_false_iff, decide_eq_false_iff_not] at this
    omega
/-- is b the other way round what c is? is it mirrored? -/
def pT (b c : Nat) : Bool := decide (ord (zf b) 1 = tp (ord (zf c) 1)) && decide (ord (zf b) 3 = tp (ord (zt c) 1)) && decide (ord (zt b) 1 = tp (ord (zf c) 3)) && decide (ord (zt b) 3 = tp (ord (zt c) 3))
def pM (b c : Nat) : Bool := decide (ord (zf b) 1 = tp (ord (zt c) 3)) && decide (ord (zf b) 3 = tp (ord (zt c) 1)) && decide (ord (zt b) 1 = tp (ord (zf c) 3)) && decide (ord (zt b) 3 = tp (ord (zf c) 1))
/-- the mirrored basic relation -/
def miN : Nat → Nat
  | 0 => 12 | 1 => 11 | 2 => 10 | 3 => 5 | 4 => 4 | 5 => 3 | 6 => 6 | 7 => 9 | 8 => 8 | 9 => 7 | 10 => 2 | 11 => 1 | _ => 0
theorem pT_find {b : Nat} (h : b < 13) : firstF (pT b) 0 13 = (((12 - b : Nat) : Int), true) := by
  rcases nat13 h with rfl | rfl | rfl | rfl | rfl | rfl | rfl | rfl | rfl | rfl | rfl | rfl | rfl <;> decide +kernel
theorem pM_find {b : Nat} (h : b < 13) : firstF (pM b) 0 13 = (((miN b : Nat) : Int), true) := by
  rcases nat13 h with rfl | rfl | rfl | rfl | rfl | rfl | rfl | rfl | rfl | rfl | rfl | rfl | rfl <;> decide +kernel
theorem miN_lt {b : Nat} (h : b < 13) : miN b < 13 := by
  rcases nat13 h with rfl | rfl | rfl | rfl | rfl | rfl | rfl | rfl | rfl | rfl | rfl | rfl | rfl <;> decide
/-- the letter of the turned, of the mirrored basic relation -/
def tuS (s : ByteArray) : ByteArray := if (lix s).2 then ltr (12 - (lix s).1.toNat) else ⟨#[]⟩
def miS (s : ByteArray) : ByteArray := if (lix s).2 then ltr (miN (lix s).1.toNat) else ⟨#[]⟩
theorem tuS_hit {s : ByteArray} {k : Nat} (h : lix s = ((k : Int), true)) : tuS s = ltr (12 - k) := by rw [tuS, h]; simp
theorem tuS_miss {s : ByteArray} (h : lix s = (0, false)) : tuS s = ⟨#[]⟩ := by rw [tuS, h]; rfl
theorem miS_hit {s : ByteArray} {k : Nat} (h : lix s = ((k : Int), true)) : miS s = ltr (miN k) := by rw [miS, h]; simp
theorem miS_miss {s : ByteArray} (h : lix s = (0, false)) : miS s = ⟨#[]⟩ := by rw [miS, h]; rfl
/-- where a point lies with regard to an interval -/
def zn (x f t : Int) : Int := if x < f then 0 else if x = f then 1 else if x < t then 2 else if x = t then 3 else 4
theorem zn_cases (x f t : Int) : (x < f ∧ zn x f t = 0) ∨ (x = f ∧ zn x f t = 1) ∨ (f < x ∧ x < t ∧ zn x f t = 2) ∨ (f < x ∧ x = t ∧ zn x f t = 3) ∨ (f < x ∧ t < x ∧ zn x f t = 4) := by
  unfold zn
  split
  · exact .inl ⟨by assumption, rfl⟩
  · split
    · exact .inr (.inl ⟨by assumption, rfl⟩)
    · split
      · exact .inr (.inr (.inl ⟨by omega, by assumption, rfl⟩))
      · split
        · exact .inr (.inr (.inr (.inl ⟨by omega, by assumption, rfl⟩)))
        · exact .inr (.inr (.inr (.inr ⟨by omega, by omega, rfl⟩)))
/-- two intervals have a basic relation -/
theorem zn_bat {a b c d : Int} (h1 : iv a b = true) (h2 : iv c d = true) : ∃ k, k < 13 ∧ zf k = zn a c d ∧ zt k = zn b c d ∧ bat (zn a c d) (zn b c d) = ((k : Int), true) := by
  rw [iv_iff] at h1 h2
  rcases bat_cases (zn a c d) (zn b c d) with ⟨k, hk, e1, e2, hr⟩ | ⟨hn, _⟩
  · exact ⟨k, hk, e1, e2, hr⟩
  · exfalso
    have n := fun k h => hn k h
    have q0 := n 0 (by omega); have q1 := n 1 (by omega); have q2 := n 2 (by omega); have q3 := n 3 (by omega); have q4 := n 4 (by omega); have q5 := n 5 (by omega); have q6 := n 6 (by omega)
    have q7 := n 7 (by omega); have q8 := n 8 (by omega); have q9 := n 9 (by omega); have q10 := n 10 (by omega); have q11 := n 11 (by omega); have q12 := n 12 (by omega)
    clear n hn
    simp only [zf, zt] at q0 q1 q2 q3 q4 q5 q6 q7 q8 q9 q10 q11 q12
    rcases zn_cases a c d with h | h | h | h | h <;> rcases zn_cases b c d with h' | h' | h' | h' | h' <;> omega
def boS (a b c d : Int) : ByteArray := if iv a b && iv c d then ltrI (batI (zn a c d) (zn b c d)) else ⟨#[]⟩
theorem boS_f1 {a b c d : Int} (h : iv a b = false) : boS a b c d = ⟨#[]⟩ := by simp [boS, h]
theorem boS_f2 {a b c d : Int} (h : iv c d = false) : boS a b c d = ⟨#[]⟩ := by simp [boS, h]
theorem boS_t {a b c d : Int} (h : iv a b = true) (h' : iv c d = true) : boS a b c d = ltrI (batI (zn a c d) (zn b c d)) := by simp [boS, h, h']
end Go.Proofs.Ytmdgkhebefnfeab.C
