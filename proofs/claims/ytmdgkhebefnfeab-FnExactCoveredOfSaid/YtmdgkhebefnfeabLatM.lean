/- Chapter 4: convex hulls, what is near, steps, orders of ends: plain functions and facts, no program is named here. Chapter 4's laws: hulls and closures by bits. No program is named here. -/
import Derived.Test.YtmdgkhebefnfeabCmpM
namespace Go.Proofs.Ytmdgkhebefnfeab.C
section
open Go.RowKit
set_option linter.unusedVariables false
set_option linter.unusedSimpArgs false
/-- the numbers below k that fit, in order -/
def bl (p : Nat → Bool) (k : Nat) : List Nat := (List.range k).filter p
theorem bl_hit {p : Nat → Bool} {k : Nat} (h : p k = true) : bl p (k + 1) = bl p k ++ [k] := by simp [bl, List.range_succ, h]
theorem bl_miss {p : Nat → Bool} {k : Nat} (h : p k = false) : bl p (k + 1) = bl p k := by simp [bl, List.range_succ, h]
theorem bl_len (p : Nat → Bool) (k : Nat) : (bl p k).length ≤ k := by
  have := List.length_filter_le p (List.range k)
  simpa [bl] using this
theorem bl_mem {p : Nat → Bool} {k x : Nat} : x ∈ bl p k ↔ x < k ∧ p x = true := by simp [bl]
theorem bl_lt {p : Nat → Bool} {x : Nat} (h : x ∈ bl p 13) : x < 13 := (bl_mem.1 h).1
theorem bl_nodup (p : Nat → Bool) (k : Nat) : (bl p k).Nodup := List.Pairwise.filter _ List.nodup_range
/-- the least and the greatest zone -/
def loZ (z : Nat → Int) (l : List Nat) : Int := l.foldl (fun a k => min a (z k)) 4
def hiZ (z : Nat → Int) (l : List Nat) : Int := l.foldl (fun a k => max a (z k)) 0
theorem loZ_snoc (z : Nat → Int) (l : List Nat) (k : Nat) : loZ z (l ++ [k]) = min (loZ z l) (z k) := by simp [loZ]
theorem hiZ_snoc (z : Nat → Int) (l : List Nat) (k : Nat) : hiZ z (l ++ [k]) = max (hiZ z l) (z k) := by simp [hiZ]
/-- within four zones -/
def inZ (a b c d : Int) (k : Nat) : Bool := btw a (zf k) b && btw c (zt k) d
def hull (n : Nat) : Nat := whN (inZ (loZ zf (bl n.testBit 13)) (hiZ zf (bl n.testBit 13)) (loZ zt (bl n.testBit 13)) (hiZ zt (bl n.testBit 13)))
theorem whN_lt (p : Nat → Bool) : whN p < 8192 := whF_lt (Nat.le_refl _)
theorem hull_lt (n : Nat) : hull n < 8192 := whN_lt _
theorem hull_zero : hull 0 = 0 := by decide +kernel
theorem zf_in {k : Nat} (h : k < 13) : 0 ≤ zf k ∧ zf k ≤ 4 := by
  rcases nat13 h with rfl | rfl | rfl | rfl | rfl | rfl | rfl | rfl | rfl | rfl | rfl | rfl | rfl <;> decide
theorem zt_in {k : Nat} (h : k < 13) : 0 ≤ zt k ∧ zt k ≤ 4 := by
  rcases nat13 h with rfl | rfl | rfl | rfl | rfl | rfl | rfl | rfl | rfl | rfl | rfl | rfl | rfl <;> decide
/-- the answers -/
def hulI (r : Int) : Int := if rv r then (hull r.toNat : Nat) else -1
def cvB (r : Int) : Bool := rv r && decide (hulI r = r)
theorem hulI_off {r : Int} (h : rv r = false) : hulI r = -1 := by simp [hulI, h]
theorem hulI_on {n : Nat} (h : n < 8192) : hulI n = (hull n : Nat) := by simp [hulI, rv_nat n h]
theorem cvB_off {r : Int} (h : rv r = false) : cvB r = false := by simp [cvB, h]
theorem cvB_on {n : Nat} (h : n < 8192) : cvB n = decide (((hull n : Nat) : Int) = n) := by simp [cvB, rv_nat n h, hulI_on h]
/-- how free the ends are -/
def evZ (z : Int) : Int := if z = 1 ∨ z = 3 then 0 else 1
def dimN (k : Nat) : Int := evZ (zf k) + evZ (zt k)
def dimI (i : Int) : Int := if i < 0 then -1 else dimN i.toNat
theorem dimI_nat (k : Nat) : dimI k = dimN k := by unfold dimI; rw [if_neg (by omega), Int.toNat_natCast]
/-- near: the same zone, or an end beside it -/
def nearZ (z y : Int) : Bool := decide (z = y) || (decide (z = 1) || decide (z = 3)) && (decide (z = y - 1) || decide (z = y + 1))
def nearB (b c : Nat) : Bool := nearZ (zf c) (zf b) && nearZ (zt c) (zt b)
theorem nearB_self (b : Nat) : nearB b b = true := by simp [nearB, nearZ]
/-- next: one zone is the same, the other one beside -/
def besZ (z y : Int) : Bool := decide (z = y - 1) || decide (z = y + 1)
def nextB (b c : Nat) : Bool := decide (zf b = zf c) && besZ (zt b) (zt c) || decide (zt b = zt c) && besZ (zf b) (zf c)
theorem nextB_sym {b c : Nat} (hb : b < 13) (hc : c < 13) : nextB c b = nextB b c := by
  have h : all13 (fun b => all13 fun c => nextB c b == nextB b c) = true := by decide +kernel
  simpa using all13_of (all13_of h hb) hc
def closN (n : Nat) : Nat := whN (fun c => (bl n.testBit 13).any fun b => nearB b c)
theorem closN_lt (n : Nat) : closN n < 8192 := whN_lt _
def nextN (k : Nat) : Nat := whN (nextB k)
def cloI (r : Int) : Int := if rv r then (closN r.toNat : Nat) else -1
theorem cloI_off {r : Int} (h : rv r = false) : cloI r = -1 := by simp [cloI, h]
theorem cloI_on {n : Nat} (h : n < 8192) : cloI n = (closN n : Nat) := by simp [cloI, rv_nat n h]
def pcB (r : Int) : Bool := rv r && cvB (cloI r)
theorem pcB_off {r : Int} (h : rv r = false) : pcB r = false := by simp [pcB, h]
theorem pcB_on {n : Nat} (h : n < 8192) : pcB n = decide (((hull (closN n) : Nat) : Int) = (closN n : Nat)) := by simp [pcB, rv_nat n h, cloI_on h, cvB_on (closN_lt n)]
def nexI (i : Int) : Int := if i < 0 then -1 else (nextN i.toNat : Nat)
theorem nexI_nat (k : Nat) : nexI k = (nextN k : Nat) := by unfold nexI; rw [if_neg (by omega), Int.toNat_natCast]
/-- a list with what is around its elements behind them, each once -/
def addAll (all ys : List Nat) : List Nat := ys.foldl (fun a y => if y ∈ a then a else a ++ [y]) all
def growL (f : Nat → List Nat) (l all : List Nat) : List Nat := l.foldl (fun a x => addAll a (f x)) all
theorem addAll_snoc (all ys : List Nat) (y : Nat) : addAll all (ys ++ [y]) = if y ∈ addAll all ys then addAll all ys else addAll all ys ++ [y] := by unfold addAll; rw [List.foldl_append]; rfl
theorem growL_snoc (f : Nat → List Nat) (l all : List Nat) (x : Nat) : growL f (l ++ [x]) all = addAll (growL f l all) (f x) := by simp [growL]
theorem mem_addAll {z : Nat} : ∀ {ys all : List Nat}, z ∈ addAll all ys ↔ z ∈ all ∨ z ∈ ys
  | [], all => by simp [addAll]
  | y :: ys, all => by
    have : addAll all (y :: ys) = addAll (if y ∈ all then all else all ++ [y]) ys := rfl
    rw [this, mem_addAll]
    by_cases h : y ∈ all
    · rw [if_pos h]
      constructor
      · rintro (h1 | h1)
        · exact .inl h1
        · exact .inr (List.mem_cons_of_mem _ h1)
      · rintro (h1 | h1)
        · exact .inl h1
        · rcases List.mem_cons.1 h1 with rfl | h2
          · exact .inl h
          · exact .inr h2
    · rw [if_neg h]
      simp [or_assoc]
theorem mem_growL {f : Nat → List Nat} {z : Nat} : ∀ {l all : List Nat}, z ∈ growL f l all ↔ z ∈ all ∨ ∃ x ∈ l, z ∈ f x
  | [], all => by simp [growL]
  | x :: l, all => by
    have : growL f (x :: l) all = growL f l (addAll all (f x)) := rfl
    rw [this, mem_growL, mem_addAll]
    simp [or_assoc]
theorem nodup_snoc {l : List Nat} {y : Nat} (h : l.Nodup) (hy : y ∉ l) : (l ++ [y]).Nodup := by
  rw [List.nodup_append]
  exact ⟨h, by simp, fun a ha b hb e => by simp at hb; subst hb; subst e; exact hy ha⟩
theorem nodup_addAll : ∀ {ys all : List Nat}, all.Nodup → (addAll all ys).Nodup
  | [], all, h => h
  | y :: ys, all, h => by
    have : addAll all (y :: ys) = addAll (if y ∈ all then all else all ++ [y]) ys := rfl
    rw [this]
    refine nodup_addAll ?_
    split
    · exact h
    · rename_i hy; exact nodup_snoc h hy
theorem len_le : ∀ {l m : List Nat}, l.Nodup → (∀ x ∈ l, x ∈ m) → l.length ≤ m.length
  | [], m, _, _ => Nat.zero_le _
  | x :: l, m, h, hs => by
    rw [List.nodup_cons] at h
    have hx := hs x (by simp)
    have h2 : l.length ≤ (m.erase x).length := len_le h.2 fun y hy => (List.mem_erase_of_ne (fun e => h.1 (by rw [← e]; exact hy))).2 (hs y (List.mem_cons_of_mem _ hy))
    have h3 := List.length_erase_of_mem hx
    have h4 := List.length_pos_of_mem hx
    simp only [List.length_cons]
    omega
/-- at most thirteen different ones -/
theorem len13 {l : List Nat} (h : l.Nodup) (hl : ∀ x ∈ l, x < 13) : l.length ≤ 13 := by
  have := len_le (m := List.range 13) h fun x hx => List.mem_range.2 (hl x hx)
  simpa using this
/-- relations as lists -/
theorem clos_list (n : Nat) : whN (fun c => decide (c ∈ growL (fun b => bl (nearB b) 13) (bl n.testBit 13) (bl n.testBit 13))) = closN n := by
  refine set_ext (whN_lt _) (whN_lt _) fun j hj => ?_
  rw [closN, whN_test hj, whN_test hj, Bool.eq_iff_iff, decide_eq_true_iff, mem_growL, List.any_eq_true]
  constructor
  · rintro (h | ⟨x, hx, h⟩)
    · exact ⟨j, h, nearB_self j⟩
    · exact ⟨x, hx, (bl_mem.1 h).2⟩
  · rintro ⟨x, hx, h⟩
    exact .inr ⟨x, hx, bl_mem.2 ⟨hj, h⟩⟩
theorem next_list (k : Nat) : whN (fun c => decide (c ∈ bl (nextB k) 13)) = nextN k := by
  refine set_ext (whN_lt _) (whN_lt _) fun j hj => ?_
  rw [nextN, whN_test hj, whN_test hj, Bool.eq_iff_iff, decide_eq_true_iff, bl_mem]
  exact ⟨fun h => h.2, fun h => ⟨hj, h⟩⟩
/-- what moves reach -/
def rchL (b : Nat) : Nat → List Nat
  | 0 => [b]
  | i + 1 => growL (fun x => bl (nextB x) 13) (rchL b i) (rchL b i)
def rchN (b : Nat) : Nat → Nat
  | 0 => 2 ^ b
  | i + 1 => rchN b i ||| orN (fun j => if (rchN b i).testBit j then nextN j else 0) 13
def stF (b c : Nat) : Nat → Nat → Nat
  | _, 0 => 9
  | i, f + 1 => if (rchN b i).testBit c then i else stF b c (i + 1) f
/-- the least number of moves -/
def stN (b c : Nat) : Nat := stF b c 0 9
def all9 (p : Nat → Bool) : Bool := allB p 9
theorem all9_of {p : Nat → Bool} (h : all9 p = true) {n : Nat} (hn : n < 9) : p n = true := allB_of h n hn
theorem rch_mem {b c i : Nat} (hb : b < 13) (hc : c < 13) (hi : i < 9) : decide (c ∈ rchL b i) = (rchN b i).testBit c := by
  have h : all13 (fun b => all13 fun c => all9 fun i => decide (c ∈ rchL b i) == (rchN b i).testBit c) = true := by decide +kernel
  simpa using all9_of (all13_of (all13_of h hb) hc) hi
theorem rch_ok {b i : Nat} (hb : b < 13) (hi : i < 9) : (rchL b i).Nodup ∧ ∀ x ∈ rchL b i, x < 13 := by
  have h : all13 (fun b => all9 fun i => decide ((rchL b i).Nodup) && (rchL b i).all fun x => decide (x < 13)) = true := by decide +kernel
  have := all9_of (all13_of h hb) hi
  simp only [Bool.and_eq_true, decide_eq_true_eq, List.all_eq_true] at this
  exact this
theorem rchN_lt {b i : Nat} (hb : b < 13) (hi : i < 9) : rchN b i < 8192 := by
  have h : all13 (fun b => all9 fun i => decide (rchN b i < 8192)) = true := by decide +kernel
  exact of_decide_eq_true (all9_of (all13_of h hb) hi)
theorem stN_lt {b c : Nat} (hb : b < 13) (hc : c < 13) : stN b c < 9 := by
  have h : all13 (fun b => all13 fun c => decide (stN b c < 9)) = true := by decide +kernel
  exact of_decide_eq_true (all13_of (all13_of h hb) hc)
theorem st_at {b c i : Nat} (hb : b < 13) (hc : c < 13) (hi : i ≤ stN b c) : (rchN b i).testBit c = decide (i = stN b c) := by
  have h : all13 (fun b => all13 fun c => all9 fun i => !decide (i ≤ stN b c) || (rchN b i).testBit c == decide (i = stN b c)) = true := by decide +kernel
  have := all9_of (all13_of (all13_of h hb) hc) (Nat.lt_of_le_of_lt hi (stN_lt hb hc))
  simpa [hi] using this
def stI (i k : Int) : Int := if i < 0 ∨ k < 0 then -1 else (stN i.toNat k.toNat : Nat)
theorem stI_nat (i k : Nat) : stI i k = (stN i k : Nat) := by unfold stI; rw [if_neg (by omega)]; rfl
theorem stI_off1 (k : Int) : stI (-1) k = -1 := by simp [stI]
theorem stI_off2 (k : Int) : stI k (-1) = -1 := by simp [stI]
/-- the orders of the ends of all basic relations of a list, at a place -/
def esF (e : Nat → Int) (l : List Nat) : Int := l.foldl (fun a k => bor a (e k)) 0
theorem esF_snoc (e : Nat → Int) (l : List Nat) (k : Nat) : esF e (l ++ [k]) = bor (esF e l) (e k) := by simp [esF]
theorem bor_pv {a b : Int} (ha : pv a = true) (hb : Ord b) : pv (bor a b) = true := by
  rcases pv_cases ha with rfl | rfl | rfl | rfl | rfl | rfl | rfl | rfl <;> rcases hb with rfl | rfl | rfl <;> decide +kernel
theorem esF_pv' {e : Nat → Int} (he : ∀ k, Ord (e k)) : ∀ (l : List Nat) {a : Int}, pv a = true → pv (l.foldl (fun a k => bor a (e k)) a) = true
  | [], _, h => h
  | k :: l, a, h => esF_pv' he l (bor_pv h (he k))
theorem esF_pv {e : Nat → Int} (he : ∀ k, Ord (e k)) (l : List Nat) : pv (esF e l) = true := esF_pv' he l rfl
def es0 (n : Nat) : Int := esF e0 (bl n.testBit 13)
def es1 (n : Nat) : Int := esF e1 (bl n.testBit 13)
def es2 (n : Nat) : Int := esF e2 (bl n.testBit 13)
def es3 (n : Nat) : Int := esF e3 (bl n.testBit 13)
theorem es_pv (n : Nat) : pv (es0 n) = true ∧ pv (es1 n) = true ∧ pv (es2 n) = true ∧ pv (es3 n) = true :=
  ⟨esF_pv (fun _ => ord_Ord _ _) _, esF_pv (fun _ => ord_Ord _ _) _, esF_pv (fun _ => ord_Ord _ _) _, esF_pv (fun _ => ord_Ord _ _) _⟩
/-- the relation told by orders of ends -/
def rooN (a b c d : Int) : Nat := whN (alw a b c d)
theorem rooN_lt (a b c d : Int) : rooN a b c d < 8192 := whN_lt _
def ptN (n : Nat) : Nat := rooN (es0 n) (es1 n) (es2 n) (es3 n)
theorem ptN_lt (n : Nat) : ptN n < 8192 := whN_lt _
def ptB (r : Int) : Bool := rv r && decide (((ptN r.toNat : Nat) : Int) = r)
theorem ptB_off {r : Int} (h : rv r = false) : ptB r = false := by simp [ptB, h]
theorem ptB_on {n : Nat} (h : n < 8192) : ptB n = decide (((ptN n : Nat) : Int) = n) := by simp [ptB, rv_nat n h]
theorem band_ne {x o : Int} (hx : pv x = true) (ho : Ord o) : (band o x != 0) = hs x o := by
  rcases pv_cases hx with rfl | rfl | rfl | rfl | rfl | rfl | rfl | rfl <;> rcases ho with rfl | rfl | rfl <;> decide +kernel
end
section
open Go.RowKit
set_option linter.unusedVariables false
set_option linter.unusedSimpArgs false
/-- what is near, as numbers -/
def nearM : List Nat := [3, 2, 206, 72, 120, 96, 64, 192, 960, 576, 3680, 2048, 6144]
def closT (n : Nat) : Nat := orN (fun b => if n.testBit b then nearM.getD b 0 else 0) 13
theorem near_base {b c : Nat} (hb : b < 13) (hc : c < 13) : (nearM.getD b 0).testBit c = nearB b c := by
  have h : all13 (fun b => all13 fun c => (nearM.getD b 0).testBit c == nearB b c) = true := by decide +kernel
  simpa using all13_of (all13_of h hb) hc
theorem near_lt {b : Nat} (hb : b < 13) : nearM.getD b 0 < 8192 := by
  have h : all13 (fun b => decide (nearM.getD b 0 < 8192)) = true := by decide +kernel
  exact of_decide_eq_true (all13_of h hb)
theorem closN_test {n j : Nat} (hj : j < 13) : (closN n).testBit j = true ↔ ∃ b, b < 13 ∧ n.testBit b = true ∧ nearB b j = true := by
  rw [closN, whN_test hj, List.any_eq_true]
  constructor
  · rintro ⟨x, hx, h⟩; exact ⟨x, (bl_mem.1 hx).1, (bl_mem.1 hx).2, h⟩
  · rintro ⟨x, h1, h2, h⟩; exact ⟨x, bl_mem.2 ⟨h1, h2⟩, h⟩
theorem closT_lt (n : Nat) : closT n < 8192 := orN_lt fun b hb => by
  split
  · exact near_lt hb
  · decide
theorem clos_t (n : Nat) : closN n = closT n := by
  refine set_ext (closN_lt _) (closT_lt _) fun j hj => ?_
  rw [Bool.eq_iff_iff, closN_test hj, closT, orN_test]
  constructor
  · rintro ⟨b, hb, h1, h2⟩
    exact ⟨b, hb, by rw [if_pos h1, near_base hb hj]; exact h2⟩
  · rintro ⟨b, hb, h⟩
    split at h
    · rename_i h1
      rw [near_base hb hj] at h
      exact ⟨b, hb, h1, h⟩
    · simp at h
/-- least and greatest zones -/
theorem loZ_snd (z : Nat → Int) : ∀ (l : List Nat) (a : Int), (l.foldl (fun a k => min a (z k)) a ≤ a) ∧ (∀ k ∈ l, l.foldl (fun a k => min a (z k)) a ≤ z k) ∧ ∀ b : Int, b ≤ a → (∀ k ∈ l, b ≤ z k) → b ≤ l.foldl (fun a k => min a (z k)) a
  | [], a => ⟨Int.le_refl _, fun k h => by simp at h, fun b h _ => h⟩
  | x :: l, a => by
    obtain ⟨h1, h2, h3⟩ := loZ_snd z l (min a (z x))
    simp only [List.foldl_cons]
    refine ⟨by omega, fun k hk => ?_, fun b hb hz => h3 b ?_ fun k hk => hz k (List.mem_cons_of_mem _ hk)⟩
    · rcases List.mem_cons.1 hk with rfl | h
      · omega
      · exact h2 k h
    · have := hz x (by simp)
      omega
theorem hiZ_snd (z : Nat → Int) : ∀ (l : List Nat) (a : Int), (a ≤ l.foldl (fun a k => max a (z k)) a) ∧ (∀ k ∈ l, z k ≤ l.foldl (fun a k => max a (z k)) a) ∧ ∀ b : Int, a ≤ b → (∀ k ∈ l, z k ≤ b) → l.foldl (fun a k => max a (z k)) a ≤ b
  | [], a => ⟨Int.le_refl _, fun k h => by simp at h, fun b h _ => h⟩
  | x :: l, a => by
    obtain ⟨h1, h2, h3⟩ := hiZ_snd z l (max a (z x))
    simp only [List.foldl_cons]
    refine ⟨by omega, fun k hk => ?_, fun b hb hz => h3 b ?_ fun k hk => hz k (List.mem_cons_of_mem _ hk)⟩
    · rcases List.mem_cons.1 hk with rfl | h
      · omega
      · exact h2 k h
    · have := hz x (by simp)
      omega
theorem hull_test {n j : Nat} (hj : j < 13) : (hull n).testBit j = inZ (loZ zf (bl n.testBit 13)) (hiZ zf (bl n.testBit 13)) (loZ zt (bl n.testBit 13)) (hiZ zt (bl n.testBit 13)) j := whN_test hj
theorem inZ_iff {a b c d : Int} {k : Nat} : inZ a b c d k = true ↔ (a ≤ zf k ∧ zf k ≤ b) ∧ c ≤ zt k ∧ zt k ≤ d := by simp [inZ, btw]
/-- a set within another one -/
def subN (a b : Nat) : Prop := ∀ j, j < 13 → a.testBit j = true → b.testBit j = true
theorem subN_anti {a b : Nat} (ha : a < 8192) (hb : b < 8192) (h : subN a b) (h' : subN b a) : a = b :=
  set_ext ha hb fun j hj => by rw [Bool.eq_iff_iff]; exact ⟨h j hj, h' j hj⟩
theorem subN_or {a b : Nat} (ha : a < 8192) (hb : b < 8192) : subN a b ↔ b ||| a = b := by
  constructor
  · intro h
    refine set_ext (or_lt hb ha) hb fun j hj => ?_
    rw [Nat.testBit_or, Bool.eq_iff_iff, Bool.or_eq_true]
    exact ⟨fun o => o.elim id (h j hj), .inl⟩
  · intro h j hj hj2
    rw [← h, Nat.testBit_or, hj2, Bool.or_true]
theorem hull_sup (n : Nat) : subN n (hull n) := fun j hj h => by
  have hm : j ∈ bl n.testBit 13 := bl_mem.2 ⟨hj, h⟩
  rw [hull_test hj, inZ_iff]
  exact ⟨⟨(loZ_snd zf _ 4).2.1 j hm, (hiZ_snd zf _ 0).2.1 j hm⟩, (loZ_snd zt _ 4).2.1 j hm, (hiZ_snd zt _ 0).2.1 j hm⟩
theorem hull_into {n m : Nat} (h : subN n (hull m)) : subN (hull n) (hull m) := fun j hj hb => by
  rw [hull_test hj, inZ_iff] at hb
  rw [hull_test hj, inZ_iff]
  have key : ∀ k ∈ bl n.testBit 13, _ := fun k hk => inZ_iff.1 (by rw [← hull_test (n := m) (bl_mem.1 hk).1]; exact h k (bl_mem.1 hk).1 (bl_mem.1 hk).2)
  have g1 := (loZ_snd zf (bl n.testBit 13) 4).2.2 _ (loZ_snd zf (bl m.testBit 13) 4).1 fun k hk => (key k hk).1.1
  have g2 := (hiZ_snd zf (bl n.testBit 13) 0).2.2 _ (hiZ_snd zf (bl m.testBit 13) 0).1 fun k hk => (key k hk).1.2
  have g3 := (loZ_snd zt (bl n.testBit 13) 4).2.2 _ (loZ_snd zt (bl m.testBit 13) 4).1 fun k hk => (key k hk).2.1
  have g4 := (hiZ_snd zt (bl n.testBit 13) 0).2.2 _ (hiZ_snd zt (bl m.testBit 13) 0).1 fun k hk => (key k hk).2.2
  exact ⟨⟨Int.le_trans g1 hb.1.1, Int.le_trans hb.1.2 g2⟩, Int.le_trans g3 hb.2.1, Int.le_trans hb.2.2 g4⟩
theorem hull_idem (n : Nat) : hull (hull n) = hull n := subN_anti (hull_lt _) (hull_lt _) (hull_into fun j _ h => h) (hull_sup _)
theorem hull_sub {n : Nat} (h : n < 8192) : hull n ||| n = hull n := (subN_or h (hull_lt n)).1 (hull_sup n)
/-- the convex ones -/
def cvL : List Nat := [0, 1, 2, 3, 4, 6, 7, 8, 12, 14, 15, 16, 24, 28, 30, 31, 32, 48, 64, 72, 96, 120, 128, 132, 134, 135, 192, 204, 206, 207, 224, 252, 254, 255, 256, 384, 388, 390, 391, 512, 576, 584, 768, 960, 972, 974, 975, 1024, 1056, 1072, 1536, 1632, 1656, 1792, 2016, 2044, 2046, 2047, 2048, 3072, 3104, 3120, 3584, 3680, 3704, 3840, 4064, 4092, 4094, 4095, 4096, 6144, 7168, 7200, 7216, 7680, 7776, 7800, 7936, 8160, 8188, 8190, 8191]
theorem cvL_lt : ∀ x ∈ cvL, x < 8192 := by decide +kernel
theorem cvL_hull : ∀ x ∈ cvL, hull x = x := by decide +kernel
def all5 (p : Nat → Bool) : Bool := allB p 5
theorem all5_of {p : Nat → Bool} (h : all5 p = true) {n : Int} (h0 : 0 ≤ n) (hn : n ≤ 4) : ∃ m : Nat, n = m ∧ p m = true := ⟨n.toNat, by omega, allB_of h n.toNat (by omega)⟩
theorem hull_in (n : Nat) : hull n ∈ cvL := by
  have H : all5 (fun a => all5 fun b => all5 fun c => all5 fun d => cvL.contains (whN (inZ a b c d))) = true := by decide +kernel
  have b1 := (loZ_snd zf (bl n.testBit 13) 4).1
  have b2 := (loZ_snd zf (bl n.testBit 13) 4).2.2 0 (by decide) fun k hk => (zf_in (bl_mem.1 hk).1).1
  have b3 := (hiZ_snd zf (bl n.testBit 13) 0).1
  have b4 := (hiZ_snd zf (bl n.testBit 13) 0).2.2 4 (by decide) fun k hk => (zf_in (bl_mem.1 hk).1).2
  have b5 := (loZ_snd zt (bl n.testBit 13) 4).1
  have b6 := (loZ_snd zt (bl n.testBit 13) 4).2.2 0 (by decide) fun k hk => (zt_in (bl_mem.1 hk).1).1
  have b7 := (hiZ_snd zt (bl n.testBit 13) 0).1
  have b8 := (hiZ_snd zt (bl n.testBit 13) 0).2.2 4 (by decide) fun k hk => (zt_in (bl_mem.1 hk).1).2
  obtain ⟨a, ea, Ha⟩ := all5_of H b2 b1
  obtain ⟨b, eb, Hb⟩ := all5_of Ha b3 b4
  obtain ⟨c, ec, Hc⟩ := all5_of Hb b6 b5
  obtain ⟨d, ed, Hd⟩ := all5_of Hc b7 b8
  have e : hull n = whN (inZ a b c d) := by unfold hull loZ hiZ; rw [ea, eb, ec, ed]
  rw [e]
  simpa using Hd
theorem cv_iff {x : Nat} : hull x = x ↔ x ∈ cvL := ⟨fun h => by rw [← h]; exact hull_in x, cvL_hull x⟩
theorem cvL_tur : ∀ x ∈ cvL, turN x ∈ cvL := by decide +kernel
theorem cvL_mir : ∀ x ∈ cvL, mirN x ∈ cvL := by decide +kernel
theorem turN_sub {a b : Nat} (h : subN a b) : subN (turN a) (turN b) := fun j hj => by rw [turN_test hj, turN_test hj]; exact h _ (turF_lt hj)
theorem mirN_sub {a b : Nat} (h : subN a b) : subN (mirN a) (mirN b) := fun j hj => by rw [mirN_test hj, mirN_test hj]; exact h _ (miN_lt hj)
theorem hull_least {n y : Nat} (h : subN n y) (hy : y ∈ cvL) : subN (hull n) y := by
  rw [← cvL_hull y hy] at h ⊢
  exact hull_into h
theorem hull_tur {n : Nat} (h : n < 8192) : turN (hull n) = hull (turN n) := by
  have k1 : ∀ n, subN (hull (turN n)) (turN (hull n)) := fun n => hull_least (turN_sub (hull_sup n)) (cvL_tur _ (hull_in n))
  refine subN_anti (turN_lt _) (hull_lt _) ?_ (k1 n)
  have := turN_sub (k1 (turN n))
  rw [tt_n h, tt_n (hull_lt _)] at this
  exact this
theorem hull_mir {n : Nat} (h : n < 8192) : mirN (hull n) = hull (mirN n) := by
  have k1 : ∀ n, subN (hull (mirN n)) (mirN (hull n)) := fun n => hull_least (mirN_sub (hull_sup n)) (cvL_mir _ (hull_in n))
  refine subN_anti (mirN_lt _) (hull_lt _) ?_ (k1 n)
  have := mirN_sub (k1 (mirN n))
  rw [mm_n h, mm_n (hull_lt _)] at this
  exact this
theorem hull_and {a b : Nat} (ha : a ∈ cvL) (hb : b ∈ cvL) : a &&& b ∈ cvL := by
  have H : (cvL.all fun a => cvL.all fun b => cvL.contains (a &&& b)) = true := by decide +kernel
  have := List.all_eq_true.1 (List.all_eq_true.1 H a ha) b hb
  simpa using this
end
end Go.Proofs.Ytmdgkhebefnfeab.C
