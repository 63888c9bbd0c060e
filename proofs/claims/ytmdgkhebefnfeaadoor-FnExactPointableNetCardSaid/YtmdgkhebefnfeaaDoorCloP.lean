/- Closing networks: what a third node leaves, passes over all pairs, that they end, and that only open pairs need them. No program is named here. -/
import Derived.Test.YtmdgkhebefnfeaaDoorNetE
import Derived.Test.YtmdgkhebefnfeaaDoorCmpM
namespace Go.Proofs.YtmdgkhebefnfeaaDoor.C
open Go.RowKit
set_option linter.unusedVariables false
set_option linter.unusedSimpArgs false
/-! What holds of all relations of a network -/
theorem sq_all {n : Nat} {R : Nat → Nat → Nat} (hR : OkR n R) {P : Nat → Bool} (h64 : P 64 = true) (ht : ∀ r, r < 8192 → P (turN r) = P r) :
    (∀ x, x < n * n → P (R (x / n) (x % n)) = true) ↔ ∀ p ∈ edL n, P (R p.1 p.2) = true := by
  constructor
  · intro h p hp
    have hp := edL_mem.1 hp
    have h1 := h (p.1 * n + p.2) (at_lt (by omega) hp.2)
    rw [(at_div hp.2).1, (at_div hp.2).2] at h1
    exact h1
  · intro h x hx
    have hn : 0 < n := Nat.pos_of_ne_zero (fun e => by subst e; simp at hx)
    have hi : x / n < n := Nat.div_lt_of_lt_mul hx
    have hk : x % n < n := Nat.mod_lt _ hn
    generalize x / n = i at *
    generalize x % n = k at *
    by_cases l : i < k
    · exact h (i, k) (edL_mem.2 ⟨l, hk⟩)
    · by_cases l2 : k < i
      · have := h (k, i) (edL_mem.2 ⟨l2, hi⟩)
        rw [hR.tur k i hk hi, ht _ (hR.lt k i)]
        exact this
      · obtain rfl : i = k := by omega
        rw [hR.one i hi]; exact h64
theorem tur_zero {r : Nat} (hr : r < 8192) : turN r = 0 ↔ r = 0 := by
  constructor
  · intro h
    have := tt_n hr
    rw [h] at this
    rw [← this]; decide +kernel
  · rintro rfl; decide +kernel
theorem mul_one' {a b : Nat} : a * b = 1 ↔ a = 1 ∧ b = 1 := by
  constructor
  · intro h
    rcases Nat.lt_or_ge 1 a with ha | ha
    · rcases Nat.eq_zero_or_pos b with rfl | hb
      · simp at h
      · have := Nat.mul_le_mul ha hb; omega
    · rcases Nat.eq_zero_or_pos a with rfl | hb
      · simp at h
      · obtain rfl : a = 1 := by omega
        omega
  · rintro ⟨rfl, rfl⟩; rfl
theorem prdL_one {R : Nat → Nat → Nat} : ∀ (m : Nat) {l : List (Nat × Nat)}, l.length = m → (prdL R l = 1 ↔ ∀ p ∈ l, onesN 13 (R p.1 p.2) = 1)
  | 0, l, h => by
    obtain rfl := List.eq_nil_of_length_eq_zero h
    simp [prdL]
  | m + 1, l, h => by
    obtain ⟨l, p, rfl⟩ : ∃ l' p, l = l' ++ [p] := ⟨l.dropLast, l.getLast (by intro e; subst e; simp at h), (List.dropLast_concat_getLast _).symm⟩
    rw [prdL_snoc, mul_one', prdL_one m (by simpa using h)]
    constructor
    · rintro ⟨h1, h2⟩ q hq
      rcases List.mem_append.1 hq with hq | hq
      · exact h1 q hq
      · rw [List.mem_singleton.1 hq]; exact h2
    · intro H
      exact ⟨fun q hq => H q (by simp [hq]), H p (by simp)⟩
/-! Triangles -/
def triN (R : Nat → Nat → Nat) (i k b : Nat) : Nat := R i k &&& cmN (R i b) (R b k)
theorem triN_lt {R : Nat → Nat → Nat} (h : ∀ i k, R i k < 8192) (i k b : Nat) : triN R i k b < 8192 := and_lt (h i k)
theorem triN_le (R : Nat → Nat → Nat) (i k b : Nat) : triN R i k b ≤ R i k := Nat.and_le_left
theorem tri_tur {n : Nat} {R : Nat → Nat → Nat} (h : OkR n R) {i k b : Nat} (hi : i < n) (hk : k < n) (hb : b < n) : triN R k i b = turN (triN R i k b) := by
  unfold triN
  rw [tur_and (h.lt i k) (cmN_lt _ _), cm_tur, ← h.tur i k hi hk, ← h.tur i b hi hb, ← h.tur b k hb hk]
theorem tri_self {n : Nat} {R : Nat → Nat → Nat} (h : OkR n R) {i k b : Nat} (hi : i < n) (hk : k < n) (hb : b = i ∨ b = k) : triN R i k b = R i k := by
  unfold triN
  rcases hb with rfl | rfl
  · rw [h.one b hi, (cm_one (h.lt b k)).2, Nat.and_self]
  · rw [h.one b hk, (cm_one (h.lt i b)).1, Nat.and_self]
/-- what no node leaves less of -/
def stb (R : Nat → Nat → Nat) (i k n : Nat) : Prop := ∀ b, b < n → triN R i k b = R i k
abbrev Nt := Nat × Nat × Nat × Nat
abbrev ClS := (Nat → Nat → Nat) × List Nt
/-- what a node leaves of a pair, noted if it is less -/
def stp (s : ClS) (i k b : Nat) : ClS := if triN s.1 i k b = s.1 i k then s else (putR s.1 i k (triN s.1 i k b), s.2 ++ [(i, triN s.1 i k b, k, b)])
theorem stp_same {s : ClS} {i k b : Nat} (h : triN s.1 i k b = s.1 i k) : stp s i k b = s := if_pos h
theorem stp_less {s : ClS} {i k b : Nat} (h : ¬ triN s.1 i k b = s.1 i k) : stp s i k b = (putR s.1 i k (triN s.1 i k b), s.2 ++ [(i, triN s.1 i k b, k, b)]) := if_neg h
def narF (s : ClS) (i k : Nat) : Nat → ClS
  | 0 => s
  | m + 1 => stp (narF s i k m) i k m
def passL (n : Nat) (s : ClS) (l : List (Nat × Nat)) : ClS := l.foldl (fun s p => narF s p.1 p.2 n) s
theorem passL_nil (n : Nat) (s : ClS) : passL n s [] = s := rfl
theorem passL_snoc (n : Nat) (s : ClS) (l : List (Nat × Nat)) (p : Nat × Nat) : passL n s (l ++ [p]) = narF (passL n s l) p.1 p.2 n := by simp [passL]
theorem passL_cons (n : Nat) (s : ClS) (l : List (Nat × Nat)) (p : Nat × Nat) : passL n s (p :: l) = passL n (narF s p.1 p.2 n) l := rfl
/-! Notes are only added -/
theorem stp_app (R : Nat → Nat → Nat) (x y : List Nt) (i k b : Nat) : stp (R, x ++ y) i k b = ((stp (R, y) i k b).1, x ++ (stp (R, y) i k b).2) := by
  unfold stp
  by_cases h : triN R i k b = R i k
  · rw [if_pos h, if_pos h]
  · rw [if_neg h, if_neg h]; simp
theorem narF_app (R : Nat → Nat → Nat) (x y : List Nt) (i k : Nat) : ∀ m, narF (R, x ++ y) i k m = ((narF (R, y) i k m).1, x ++ (narF (R, y) i k m).2)
  | 0 => rfl
  | m + 1 => by
    show stp (narF (R, x ++ y) i k m) i k m = _
    rw [narF_app R x y i k m, stp_app]
    rfl
theorem passL_app (n : Nat) (x : List Nt) : ∀ (l : List (Nat × Nat)) (R : Nat → Nat → Nat) (y : List Nt), passL n (R, x ++ y) l = ((passL n (R, y) l).1, x ++ (passL n (R, y) l).2)
  | [], R, y => rfl
  | p :: l, R, y => by
    rw [passL_cons, passL_cons, narF_app, passL_app n x l]
theorem stp_len (s : ClS) (i k b : Nat) : s.2.length ≤ (stp s i k b).2.length := by
  unfold stp; split
  · exact Nat.le_refl _
  · simp
theorem narF_len (s : ClS) (i k : Nat) : ∀ m, s.2.length ≤ (narF s i k m).2.length
  | 0 => Nat.le_refl _
  | m + 1 => Nat.le_trans (narF_len s i k m) (stp_len _ _ _ _)
theorem passL_len (n : Nat) : ∀ (l : List (Nat × Nat)) (s : ClS), s.2.length ≤ (passL n s l).2.length
  | [], s => Nat.le_refl _
  | p :: l, s => Nat.le_trans (narF_len s p.1 p.2 n) (passL_len n l _)
theorem stp_quiet {s : ClS} {i k b : Nat} (h : (stp s i k b).2.length = s.2.length) : triN s.1 i k b = s.1 i k := by
  by_cases e : triN s.1 i k b = s.1 i k
  · exact e
  · rw [stp_less e] at h; simp at h
theorem narF_quiet {s : ClS} {i k : Nat} : ∀ {m : Nat}, (narF s i k m).2.length = s.2.length → narF s i k m = s ∧ ∀ b, b < m → triN s.1 i k b = s.1 i k
  | 0, _ => ⟨rfl, fun b hb => by omega⟩
  | m + 1, h => by
    have h1 := narF_len s i k m
    have h2 := stp_len (narF s i k m) i k m
    have h : (stp (narF s i k m) i k m).2.length = s.2.length := h
    obtain ⟨e, he⟩ := narF_quiet (s := s) (i := i) (k := k) (m := m) (by omega)
    rw [e] at h
    have h3 := stp_quiet h
    refine ⟨?_, fun b hb => ?_⟩
    · show stp (narF s i k m) i k m = s
      rw [e, stp_same h3]
    · by_cases hb' : b < m
      · exact he b hb'
      · obtain rfl : b = m := by omega
        exact h3
theorem passL_quiet {n : Nat} : ∀ {l : List (Nat × Nat)} {s : ClS}, (passL n s l).2.length = s.2.length → passL n s l = s ∧ ∀ p ∈ l, stb s.1 p.1 p.2 n
  | [], s, _ => ⟨rfl, fun p hp => by cases hp⟩
  | p :: l, s, h => by
    rw [passL_cons] at h ⊢
    have h1 := narF_len s p.1 p.2 n
    have h2 := passL_len n l (narF s p.1 p.2 n)
    obtain ⟨e, he⟩ := narF_quiet (s := s) (i := p.1) (k := p.2) (m := n) (by omega)
    rw [e] at h ⊢
    obtain ⟨e2, he2⟩ := passL_quiet h
    refine ⟨e2, fun q hq => ?_⟩
    rcases List.mem_cons.1 hq with rfl | hq
    · exact he
    · exact he2 q hq
theorem narF_stb {s : ClS} {i k n : Nat} (h : stb s.1 i k n) : ∀ m, m ≤ n → narF s i k m = s
  | 0, _ => rfl
  | m + 1, hm => by
    show stp (narF s i k m) i k m = s
    rw [narF_stb h m (by omega), stp_same (h m (by omega))]
theorem passL_stb {n : Nat} : ∀ {l : List (Nat × Nat)} {s : ClS}, (∀ p ∈ l, stb s.1 p.1 p.2 n) → passL n s l = s
  | [], s, _ => rfl
  | p :: l, s, h => by
    rw [passL_cons, narF_stb (h p (by simp)) n (Nat.le_refl _)]
    exact passL_stb fun q hq => h q (by simp [hq])
/-! Networks stay networks -/
theorem stp_ok {n : Nat} {s : ClS} (h : OkR n s.1) {i k b : Nat} (hi : i < n) (hk : k < n) (hne : i ≠ k) : OkR n (stp s i k b).1 := by
  unfold stp; split
  · exact h
  · exact putR_ok h hi hk hne (triN_lt h.lt _ _ _)
theorem narF_ok {n : Nat} {s : ClS} (h : OkR n s.1) {i k : Nat} (hi : i < n) (hk : k < n) (hne : i ≠ k) : ∀ m, OkR n (narF s i k m).1
  | 0 => h
  | m + 1 => stp_ok (narF_ok h hi hk hne m) hi hk hne
theorem passL_ok {n : Nat} : ∀ {l : List (Nat × Nat)} {s : ClS}, OkR n s.1 → (∀ p ∈ l, p.1 < p.2 ∧ p.2 < n) → OkR n (passL n s l).1
  | [], s, h, _ => h
  | p :: l, s, h, H => by
    rw [passL_cons]
    have hp := H p (by simp)
    exact passL_ok (narF_ok h (by omega) hp.2 (by omega) n) fun q hq => H q (by simp [hq])
/-! They become less -/
def sumP (f : Nat × Nat → Nat) : List (Nat × Nat) → Nat
  | [] => 0
  | p :: l => f p + sumP f l
theorem sumP_le {f g : Nat × Nat → Nat} : ∀ {l : List (Nat × Nat)}, (∀ p ∈ l, f p ≤ g p) → sumP f l ≤ sumP g l
  | [], _ => Nat.le_refl _
  | p :: l, h => by
    have h1 := h p (by simp)
    have h2 := sumP_le (l := l) fun q hq => h q (by simp [hq])
    show f p + sumP f l ≤ g p + sumP g l
    omega
theorem sumP_lt {f g : Nat × Nat → Nat} : ∀ {l : List (Nat × Nat)}, (∀ p ∈ l, f p ≤ g p) → (∃ p ∈ l, f p < g p) → sumP f l < sumP g l
  | [], _, ⟨p, hp, _⟩ => by cases hp
  | p :: l, h, ⟨q, hq, hlt⟩ => by
    have h1 := h p (by simp)
    have h2 := sumP_le (l := l) fun q hq => h q (by simp [hq])
    show f p + sumP f l < g p + sumP g l
    rcases List.mem_cons.1 hq with rfl | hq
    · omega
    · have := sumP_lt (l := l) (fun q hq => h q (by simp [hq])) ⟨q, hq, hlt⟩
      omega
theorem sumP_bd {f : Nat × Nat → Nat} {c : Nat} : ∀ {l : List (Nat × Nat)}, (∀ p ∈ l, f p ≤ c) → sumP f l ≤ c * l.length
  | [], _ => by simp [sumP]
  | p :: l, h => by
    have h1 := h p (by simp)
    have h2 := sumP_bd (l := l) fun q hq => h q (by simp [hq])
    show f p + sumP f l ≤ c * (l.length + 1)
    rw [Nat.mul_add]; omega
def mu (n : Nat) (R : Nat → Nat → Nat) : Nat := sumP (fun p => R p.1 p.2) (edL n)
theorem mu_bd {n : Nat} {R : Nat → Nat → Nat} (h : OkR n R) : mu n R ≤ 122865 := by
  have h1 := sumP_bd (f := fun p => R p.1 p.2) (c := 8191) (l := edL n) fun p _ => by have := h.lt p.1 p.2; show R p.1 p.2 ≤ 8191; omega
  have h2 := Nat.mul_le_mul_left 8191 (edL_len h.le)
  unfold mu; omega
theorem putR_le {R : Nat → Nat → Nat} {i k r : Nat} (hik : i < k) (hr : r ≤ R i k) {a b : Nat} (hab : a < b) : putR R i k r a b ≤ R a b := by
  rw [putR_at hik]
  by_cases e : a = i ∧ b = k
  · obtain ⟨rfl, rfl⟩ := e; rw [if_pos ⟨rfl, rfl⟩]; exact hr
  · rw [if_neg e, if_neg (by omega)]; exact Nat.le_refl _
theorem stp_mu {n : Nat} (s : ClS) {i k b : Nat} (hik : i < k) (hk : k < n) : (stp s i k b).2.length + mu n (stp s i k b).1 ≤ s.2.length + mu n s.1 := by
  by_cases e : triN s.1 i k b = s.1 i k
  · rw [stp_same e]; exact Nat.le_refl _
  · rw [stp_less e]
    have hle := triN_le s.1 i k b
    have := sumP_lt (f := fun p => putR s.1 i k (triN s.1 i k b) p.1 p.2) (g := fun p => s.1 p.1 p.2) (l := edL n) (fun p hp => putR_le hik hle (edL_mem.1 hp).1) ⟨(i, k), edL_mem.2 ⟨hik, hk⟩, by
      show putR s.1 i k _ i k < s.1 i k
      rw [putR_at hik, if_pos ⟨rfl, rfl⟩]; omega⟩
    show (s.2 ++ [(i, triN s.1 i k b, k, b)]).length + sumP (fun p => putR s.1 i k (triN s.1 i k b) p.1 p.2) (edL n) ≤ s.2.length + sumP (fun p => s.1 p.1 p.2) (edL n)
    rw [List.length_append, List.length_singleton]
    omega
theorem narF_mu {n : Nat} (s : ClS) {i k : Nat} (hik : i < k) (hk : k < n) : ∀ m, (narF s i k m).2.length + mu n (narF s i k m).1 ≤ s.2.length + mu n s.1
  | 0 => Nat.le_refl _
  | m + 1 => Nat.le_trans (stp_mu _ hik hk) (narF_mu s hik hk m)
theorem passL_mu {n : Nat} : ∀ {l : List (Nat × Nat)} (s : ClS), (∀ p ∈ l, p.1 < p.2 ∧ p.2 < n) → (passL n s l).2.length + mu n (passL n s l).1 ≤ s.2.length + mu n s.1
  | [], s, _ => Nat.le_refl _
  | p :: l, s, H => by
    rw [passL_cons]
    have hp := H p (by simp)
    exact Nat.le_trans (passL_mu _ fun q hq => H q (by simp [hq])) (narF_mu s hp.1 hp.2 n)
/-! Passes, again and again -/
def itr (n : Nat) (s : ClS) : Nat → ClS
  | 0 => s
  | t + 1 => passL n (itr n s t) (edL n)
theorem ed_in (n : Nat) : ∀ p ∈ edL n, p.1 < p.2 ∧ p.2 < n := fun p hp => edL_mem.1 hp
theorem itr_ok {n : Nat} {s : ClS} (h : OkR n s.1) : ∀ t, OkR n (itr n s t).1
  | 0 => h
  | t + 1 => passL_ok (itr_ok h t) (ed_in n)
theorem itr_mu {n : Nat} (s : ClS) : ∀ t, (itr n s t).2.length + mu n (itr n s t).1 ≤ s.2.length + mu n s.1
  | 0 => Nat.le_refl _
  | t + 1 => Nat.le_trans (passL_mu _ (ed_in n)) (itr_mu s t)
/-- closed: no node leaves less -/
def Qt (n : Nat) (R : Nat → Nat → Nat) : Prop := ∀ p ∈ edL n, stb R p.1 p.2 n
theorem itr_stay {n : Nat} {s : ClS} {t : Nat} (h : Qt n (itr n s t).1) : ∀ u, itr n s (t + u) = itr n s t
  | 0 => rfl
  | u + 1 => by
    show passL n (itr n s (t + u)) (edL n) = _
    rw [itr_stay h u]; exact passL_stb h
/-- a network closed, and what this notes -/
def Cl (n : Nat) (R R' : Nat → Nat → Nat) (nt : List Nt) : Prop := (∃ t, itr n (R, []) t = (R', nt)) ∧ Qt n R'
theorem Cl.unique {n : Nat} {R R1 R2 : Nat → Nat → Nat} {n1 n2 : List Nt} (h1 : Cl n R R1 n1) (h2 : Cl n R R2 n2) : R1 = R2 ∧ n1 = n2 := by
  obtain ⟨⟨t, e1⟩, q1⟩ := h1
  obtain ⟨⟨u, e2⟩, q2⟩ := h2
  have k1 : Qt n (itr n (R, []) t).1 := by rw [e1]; exact q1
  have k2 : Qt n (itr n (R, []) u).1 := by rw [e2]; exact q2
  have e : (R1, n1) = (R2, n2) := by
    rcases Nat.le_total t u with h | h
    · have := itr_stay k1 (u - t)
      rw [show t + (u - t) = u by omega, e1, e2] at this
      exact this.symm
    · have := itr_stay k2 (t - u)
      rw [show u + (t - u) = t by omega, e1, e2] at this
      exact this
  exact ⟨congrArg Prod.fst e, congrArg Prod.snd e⟩
theorem Cl.some {n : Nat} (R : Nat → Nat → Nat) : ∃ R' nt, Cl n R R' nt := by
  have key : ∀ (m t : Nat), mu n (itr n (R, []) t).1 ≤ m → ∃ R' nt, Cl n R R' nt := by
    intro m
    induction m with
    | zero =>
      intro t ht
      have h1 := passL_mu (l := edL n) (itr n (R, []) t) (ed_in n)
      have h2 := passL_len n (edL n) (itr n (R, []) t)
      exact ⟨_, _, ⟨t, rfl⟩, (passL_quiet (by omega)).2⟩
    | succ m ih =>
      intro t ht
      have h1 := passL_mu (l := edL n) (itr n (R, []) t) (ed_in n)
      have h2 := passL_len n (edL n) (itr n (R, []) t)
      by_cases e : (passL n (itr n (R, []) t) (edL n)).2.length = (itr n (R, []) t).2.length
      · exact ⟨_, _, ⟨t, rfl⟩, (passL_quiet e).2⟩
      · exact ih (t + 1) (show mu n (passL n (itr n (R, []) t) (edL n)).1 ≤ m by omega)
  exact key _ 0 (Nat.le_refl _)
open Classical in
noncomputable def cloR (n : Nat) (R : Nat → Nat → Nat) : Nat → Nat → Nat := Classical.choose (Cl.some (n := n) R)
open Classical in
noncomputable def cloN (n : Nat) (R : Nat → Nat → Nat) : List Nt := Classical.choose (Classical.choose_spec (Cl.some (n := n) R))
theorem clo_cl (n : Nat) (R : Nat → Nat → Nat) : Cl n R (cloR n R) (cloN n R) := Classical.choose_spec (Classical.choose_spec (Cl.some (n := n) R))
theorem Cl.is {n : Nat} {R R' : Nat → Nat → Nat} {nt : List Nt} (h : Cl n R R' nt) : R' = cloR n R ∧ nt = cloN n R := h.unique (clo_cl n R)
theorem cloR_ok {n : Nat} {R : Nat → Nat → Nat} (h : OkR n R) : OkR n (cloR n R) := by
  obtain ⟨⟨t, e⟩, _⟩ := clo_cl n R
  have := itr_ok (s := (R, [])) h t
  rw [e] at this; exact this
theorem cloN_len {n : Nat} {R : Nat → Nat → Nat} (h : OkR n R) : (cloN n R).length ≤ 122865 := by
  obtain ⟨⟨t, e⟩, _⟩ := clo_cl n R
  have h1 := itr_mu (n := n) (R, []) t
  rw [e] at h1
  have h2 := mu_bd h
  have h1 : (cloN n R).length + mu n (cloR n R) ≤ 0 + mu n R := h1
  omega
/-! Only open pairs need it -/
theorem tri_sub {n : Nat} {R S : Nat → Nat → Nat} (hS : OkR n S) {i k b : Nat} (hi : i < n) (hk : k < n) (h : triN R i k b = R i k) (hs : S i k &&& R i k = S i k) (h1 : b ≠ i → b ≠ k → S i b = R i b) (h2 : b ≠ i → b ≠ k → S b k = R b k) : triN S i k b = S i k := by
  by_cases e1 : b = i
  · exact tri_self hS hi hk (.inl e1)
  · by_cases e2 : b = k
    · exact tri_self hS hi hk (.inr e2)
    · have h : R i k &&& cmN (R i b) (R b k) = R i k := h
      show S i k &&& cmN (S i b) (S b k) = S i k
      rw [h1 e1 e2, h2 e1 e2]
      rw [sub_iff] at hs h ⊢
      exact fun j hj => h j (hs j hj)
theorem narF_self {n : Nat} {s : ClS} (hR : OkR n s.1) {i k : Nat} (hik : i < k) (hk : k < n) : ∀ m, ∀ b, b < m → triN (narF s i k m).1 i k b = (narF s i k m).1 i k
  | 0, b, hb => by omega
  | m + 1, b, hb => by
    have ih := narF_self hR hik hk m
    have hok := narF_ok hR (show i < n by omega) hk (by omega) m
    show triN (stp (narF s i k m) i k m).1 i k b = (stp (narF s i k m) i k m).1 i k
    have hok2 := stp_ok (b := m) hok (show i < n by omega) hk (by omega)
    generalize narF s i k m = u at *
    by_cases e : triN u.1 i k m = u.1 i k
    · rw [stp_same e]
      by_cases hb' : b < m
      · exact ih b hb'
      · obtain rfl : b = m := by omega
        exact e
    · rw [stp_less e] at hok2 ⊢
      have ep : putR u.1 i k (triN u.1 i k m) i k = triN u.1 i k m := by rw [putR_at hik, if_pos ⟨rfl, rfl⟩]
      have e1 : ∀ c, c ≠ i → c ≠ k → putR u.1 i k (triN u.1 i k m) i c = u.1 i c := fun c h1 h2 => by rw [putR_at hik, if_neg (by omega), if_neg (by omega)]
      have e2 : ∀ c, c ≠ i → c ≠ k → putR u.1 i k (triN u.1 i k m) c k = u.1 c k := fun c h1 h2 => by rw [putR_at hik, if_neg (by omega), if_neg (by omega)]
      by_cases hb' : b < m
      · exact tri_sub hok2 (by omega) hk (ih b hb') (by show putR u.1 i k (triN u.1 i k m) i k &&& u.1 i k = putR u.1 i k (triN u.1 i k m) i k; rw [ep]; unfold triN; rw [Nat.and_assoc, Nat.and_comm (cmN _ _), ← Nat.and_assoc, Nat.and_self]) (e1 b) (e2 b)
      · obtain rfl : b = m := by omega
        by_cases f1 : b = i
        · exact tri_self hok2 (by omega) hk (.inl f1)
        · by_cases f2 : b = k
          · exact tri_self hok2 (by omega) hk (.inr f2)
          · show putR u.1 i k (triN u.1 i k b) i k &&& cmN (putR u.1 i k (triN u.1 i k b) i b) (putR u.1 i k (triN u.1 i k b) b k) = putR u.1 i k (triN u.1 i k b) i k
            rw [ep, e1 b f1 f2, e2 b f1 f2]
            unfold triN
            rw [Nat.and_assoc, Nat.and_self]
/-- two pairs have just one node in common -/
def besB (p q : Nat × Nat) : Bool := !(p == q) && (q.1 == p.1 || q.1 == p.2 || (q.2 == p.1 || q.2 == p.2))
theorem stp_far {s : ClS} {i k b c d n : Nat} (hik : i < k) (h1 : c ≠ i) (h2 : c ≠ k) (h3 : d ≠ i) (h4 : d ≠ k) (h : stb s.1 c d n) : stb (stp s i k b).1 c d n := by
  unfold stp; split
  · exact h
  · intro x hx
    have := h x hx
    unfold triN at this ⊢
    show putR s.1 i k _ c d &&& cmN (putR s.1 i k _ c x) (putR s.1 i k _ x d) = putR s.1 i k _ c d
    rw [putR_at hik, putR_at hik, putR_at hik, if_neg (by omega), if_neg (by omega), if_neg (by omega), if_neg (by omega), if_neg (by omega), if_neg (by omega)]
    exact this
theorem narF_far {s : ClS} {i k c d n : Nat} (hik : i < k) (h1 : c ≠ i) (h2 : c ≠ k) (h3 : d ≠ i) (h4 : d ≠ k) (h : stb s.1 c d n) : ∀ m, stb (narF s i k m).1 c d n
  | 0 => h
  | m + 1 => stp_far hik h1 h2 h3 h4 (narF_far hik h1 h2 h3 h4 h m)
/-- the pairs that are open behind one of them -/
def opn (O : Nat × Nat → Bool) (p : Nat × Nat) (ch : Bool) (q : Nat × Nat) : Bool := if ch && besB q p then true else if q = p then false else O q
def InvO (n : Nat) (R : Nat → Nat → Nat) (O : Nat × Nat → Bool) : Prop := ∀ q, q ∈ edL n → O q = false → stb R q.1 q.2 n
theorem invO_skip {n : Nat} {s : ClS} {O : Nat × Nat → Bool} (h : InvO n s.1 O) {p : Nat × Nat} (hp : p ∈ edL n) (ho : O p = false) : narF s p.1 p.2 n = s := narF_stb (h p hp ho) n (Nat.le_refl _)
theorem invO_step {n : Nat} {s : ClS} (hR : OkR n s.1) {O : Nat × Nat → Bool} (h : InvO n s.1 O) {p : Nat × Nat} (hp : p ∈ edL n) : InvO n (narF s p.1 p.2 n).1 (opn O p (decide (s.2.length < (narF s p.1 p.2 n).2.length))) := by
  have hp' := edL_mem.1 hp
  intro q hq ho
  have hq' := edL_mem.1 hq
  have hs := narF_self hR hp'.1 hp'.2 n
  have hl := narF_len s p.1 p.2 n
  by_cases e : q = p
  · subst e; exact hs
  · by_cases hc : s.2.length < (narF s p.1 p.2 n).2.length
    · simp only [opn, decide_eq_true hc, Bool.true_and] at ho
      by_cases hb : besB q p = true
      · rw [if_pos hb] at ho; cases ho
      · rw [if_neg hb, if_neg e] at ho
        have hne : (q == p) = false := by simp [e]
        simp only [besB, hne, Bool.not_false, Bool.true_and, Bool.or_eq_true, beq_iff_eq, not_or] at hb
        have h0 := h q hq ho
        exact narF_far hp'.1 (fun e => hb.1.1 e.symm) (fun e => hb.2.1 e.symm) (fun e => hb.1.2 e.symm) (fun e => hb.2.2 e.symm) h0 n
    · obtain ⟨e1, e2⟩ := narF_quiet (s := s) (i := p.1) (k := p.2) (m := n) (by omega)
      rw [e1]
      simp only [opn, decide_eq_false hc, Bool.false_and, if_neg e] at ho
      rw [if_neg (by simp)] at ho
      exact h q hq ho
/-! The open pairs, as a list -/
def putQ (l : List (Nat × Nat)) (p : Nat × Nat) : List (Nat × Nat) := if p ∈ l then l else l ++ [p]
theorem putQ_mem {l : List (Nat × Nat)} {p q : Nat × Nat} : q ∈ putQ l p ↔ q ∈ l ∨ q = p := by
  unfold putQ
  by_cases h : p ∈ l
  · rw [if_pos h]
    exact ⟨.inl, fun h2 => h2.elim id fun e => by rw [e]; exact h⟩
  · rw [if_neg h]; simp
theorem putQ_nodup {l : List (Nat × Nat)} (h : l.Nodup) (p : Nat × Nat) : (putQ l p).Nodup := by
  unfold putQ
  by_cases hp : p ∈ l
  · rw [if_pos hp]; exact h
  · rw [if_neg hp, List.nodup_append]
    refine ⟨h, by simp, ?_⟩
    rintro a ha b hb rfl
    rw [List.mem_singleton] at hb
    exact hp (by rw [← hb]; exact ha)
def addB (ps : List (Nat × Nat)) (p : Nat × Nat) (l : List (Nat × Nat)) : List (Nat × Nat) := ps.foldl (fun acc q => if besB q p then putQ acc q else acc) l
theorem addB_snoc (ps : List (Nat × Nat)) (q p : Nat × Nat) (l : List (Nat × Nat)) : addB (ps ++ [q]) p l = if besB q p then putQ (addB ps p l) q else addB ps p l := by simp [addB]
theorem addB_mem {p q : Nat × Nat} : ∀ {ps l : List (Nat × Nat)}, q ∈ addB ps p l ↔ q ∈ l ∨ (q ∈ ps ∧ besB q p = true)
  | [], l => by simp [addB]
  | x :: ps, l => by
    show q ∈ addB ps p (if besB x p then putQ l x else l) ↔ _
    rw [addB_mem]
    by_cases h : besB x p = true
    · rw [if_pos h, putQ_mem]
      constructor
      · rintro ((h1 | rfl) | ⟨h1, h2⟩)
        · exact .inl h1
        · exact .inr ⟨by simp, h⟩
        · exact .inr ⟨by simp [h1], h2⟩
      · rintro (h1 | ⟨h1, h2⟩)
        · exact .inl (.inl h1)
        · rcases List.mem_cons.1 h1 with rfl | h1
          · exact .inl (.inr rfl)
          · exact .inr ⟨h1, h2⟩
    · rw [if_neg h]
      constructor
      · rintro (h1 | ⟨h1, h2⟩)
        · exact .inl h1
        · exact .inr ⟨by simp [h1], h2⟩
      · rintro (h1 | ⟨h1, h2⟩)
        · exact .inl h1
        · rcases List.mem_cons.1 h1 with rfl | h1
          · exact absurd h2 h
          · exact .inr ⟨h1, h2⟩
theorem addB_nodup {p : Nat × Nat} : ∀ {ps l : List (Nat × Nat)}, l.Nodup → (addB ps p l).Nodup
  | [], l, h => h
  | x :: ps, l, h => by
    show (addB ps p (if besB x p then putQ l x else l)).Nodup
    split
    · exact addB_nodup (putQ_nodup h x)
    · exact addB_nodup h
/-- a list of open pairs that is good for a network -/
structure InvL (n : Nat) (R : Nat → Nat → Nat) (l : List (Nat × Nat)) : Prop where
  nod : l.Nodup
  sub : ∀ q ∈ l, q ∈ edL n
  inv : ∀ q, q ∈ edL n → q ∉ l → stb R q.1 q.2 n
theorem er_mem {l : List (Nat × Nat)} (h : l.Nodup) {p q : Nat × Nat} : q ∈ l.erase p ↔ q ≠ p ∧ q ∈ l := h.mem_erase_iff
theorem InvL.skip {n : Nat} {s : ClS} {l : List (Nat × Nat)} (h : InvL n s.1 l) {p : Nat × Nat} (hp : p ∈ edL n) (ho : p ∉ l) : narF s p.1 p.2 n = s := narF_stb (h.inv p hp ho) n (Nat.le_refl _)
theorem InvL.quiet {n : Nat} {s : ClS} (hR : OkR n s.1) {l : List (Nat × Nat)} (h : InvL n s.1 l) {p : Nat × Nat} (hp : p ∈ edL n) (hq : (narF s p.1 p.2 n).2.length = s.2.length) : narF s p.1 p.2 n = s ∧ InvL n s.1 (l.erase p) := by
  obtain ⟨e1, e2⟩ := narF_quiet hq
  refine ⟨e1, h.nod.erase p, fun q hq => h.sub q (List.mem_of_mem_erase hq), fun q hq ho => ?_⟩
  by_cases e : q = p
  · subst e; exact e2
  · exact h.inv q hq fun hm => ho ((er_mem h.nod).2 ⟨e, hm⟩)
theorem InvL.change {n : Nat} {s : ClS} (hR : OkR n s.1) {l : List (Nat × Nat)} (h : InvL n s.1 l) {p : Nat × Nat} (hp : p ∈ edL n) (hq : ¬ (narF s p.1 p.2 n).2.length = s.2.length) : InvL n (narF s p.1 p.2 n).1 (addB (edL n) p (l.erase p)) := by
  have hl := narF_len s p.1 p.2 n
  refine ⟨addB_nodup (h.nod.erase p), fun q hq => ?_, fun q hq' ho => ?_⟩
  · rcases addB_mem.1 hq with h1 | ⟨h1, _⟩
    · exact h.sub q (List.mem_of_mem_erase h1)
    · exact h1
  · have hO : InvO n s.1 fun q => decide (q ∈ l) := fun q hq ho => h.inv q hq (of_decide_eq_false ho)
    refine invO_step hR hO hp q hq' ?_
    have hn : ¬ (q ∈ l.erase p ∨ (q ∈ edL n ∧ besB q p = true)) := fun hh => ho (addB_mem.2 hh)
    have hb : besB q p = false := by
      cases hb : besB q p
      · rfl
      · exact absurd (.inr ⟨hq', hb⟩) hn
    unfold opn
    rw [hb, Bool.and_false, if_neg (by simp)]
    by_cases e : q = p
    · rw [if_pos e]
    · rw [if_neg e]
      exact decide_eq_false fun hm => hn (.inl ((er_mem h.nod).2 ⟨e, hm⟩))
theorem edI_nodup (i m : Nat) : (edI i m).Nodup := by
  unfold edI
  rw [List.nodup_iff_pairwise_ne, List.pairwise_map]
  refine List.pairwise_lt_range.imp fun {a b} h e => ?_
  have := congrArg Prod.snd e
  simp at this
  omega
theorem edF_nodup (n : Nat) : ∀ i, i ≤ n → (edF n i).Nodup
  | 0, _ => by simp [edF]
  | i + 1, h => by
    show (edF n i ++ edI i (n - 1 - i)).Nodup
    rw [List.nodup_append]
    refine ⟨edF_nodup n i (by omega), edI_nodup _ _, ?_⟩
    rintro a ha b hb rfl
    have h1 := (edF_mem (show i ≤ n by omega)).1 ha
    have h2 := edI_mem.1 hb
    omega
theorem edL_nodup (n : Nat) : (edL n).Nodup := edF_nodup n n (Nat.le_refl _)
theorem InvL.all (n : Nat) (R : Nat → Nat → Nat) : InvL n R (edL n) := ⟨edL_nodup n, fun _ h => h, fun q h h2 => absurd h h2⟩
theorem InvL.none {n : Nat} {R : Nat → Nat → Nat} (h : InvL n R []) : Qt n R := fun p hp => h.inv p hp (by simp)
/-- what one pass of the program has done so far: the state, the open pairs -/
structure PassI (n : Nat) (s0 s : ClS) (l : List (Nat × Nat)) (j : Nat) : Prop where
  st : s = passL n s0 ((edL n).take j)
  inv : InvL n s.1 l
  quiet : s.2.length = s0.2.length → ∀ q ∈ (edL n).take j, q ∉ l
theorem PassI.start {n : Nat} {s0 : ClS} {l : List (Nat × Nat)} (h : InvL n s0.1 l) : PassI n s0 s0 l 0 := ⟨rfl, h, fun _ q hq => by simp at hq⟩
theorem PassI.len {n : Nat} {s0 s : ClS} {l : List (Nat × Nat)} {j : Nat} (h : PassI n s0 s l j) : s0.2.length ≤ s.2.length := by rw [h.st]; exact passL_len _ _ _
theorem PassI.next {n : Nat} {s0 s : ClS} {l : List (Nat × Nat)} {j : Nat} (h : PassI n s0 s l j) (hj : j < (edL n).length) : narF s ((edL n).getD j (0, 0)).1 ((edL n).getD j (0, 0)).2 n = passL n s0 ((edL n).take (j + 1)) := by
  rw [takeP _ _ hj, passL_snoc, ← h.st]
theorem PassI.skip {n : Nat} {s0 s : ClS} {l : List (Nat × Nat)} {j : Nat} (h : PassI n s0 s l j) (hj : j < (edL n).length) (ho : (edL n).getD j (0, 0) ∉ l) : PassI n s0 s l (j + 1) := by
  refine ⟨?_, h.inv, fun hq q hm => ?_⟩
  · rw [← h.next hj]; exact (h.inv.skip (getP_mem hj) ho).symm
  · rw [takeP _ _ hj] at hm
    rcases List.mem_append.1 hm with hm | hm
    · exact h.quiet hq q hm
    · rw [List.mem_singleton.1 hm]; exact ho
theorem PassI.still {n : Nat} {s0 s : ClS} {l : List (Nat × Nat)} {j : Nat} (h : PassI n s0 s l j) (hR : OkR n s.1) (hj : j < (edL n).length) (hq : (narF s ((edL n).getD j (0, 0)).1 ((edL n).getD j (0, 0)).2 n).2.length = s.2.length) : PassI n s0 s (l.erase ((edL n).getD j (0, 0))) (j + 1) := by
  obtain ⟨e, hi⟩ := h.inv.quiet hR (getP_mem hj) hq
  refine ⟨by rw [← h.next hj, e], hi, fun hl q hm ho => ?_⟩
  obtain ⟨hne, ho⟩ := (er_mem h.inv.nod).1 ho
  rw [takeP _ _ hj] at hm
  rcases List.mem_append.1 hm with hm | hm
  · exact h.quiet hl q hm ho
  · exact hne (List.mem_singleton.1 hm)
theorem PassI.change {n : Nat} {s0 s : ClS} {l : List (Nat × Nat)} {j : Nat} (h : PassI n s0 s l j) (hR : OkR n s.1) (hj : j < (edL n).length) (hq : ¬ (narF s ((edL n).getD j (0, 0)).1 ((edL n).getD j (0, 0)).2 n).2.length = s.2.length) : PassI n s0 (narF s ((edL n).getD j (0, 0)).1 ((edL n).getD j (0, 0)).2 n) (addB (edL n) ((edL n).getD j (0, 0)) (l.erase ((edL n).getD j (0, 0)))) (j + 1) := by
  refine ⟨h.next hj, h.inv.change hR (getP_mem hj) hq, fun hl => ?_⟩
  have h1 := h.len
  have h2 := narF_len s ((edL n).getD j (0, 0)).1 ((edL n).getD j (0, 0)).2 n
  omega
theorem PassI.more {n : Nat} {s0 s : ClS} {l : List (Nat × Nat)} (h : PassI n s0 s l (edL n).length) (hl : l ≠ []) : s = passL n s0 (edL n) ∧ InvL n s.1 l ∧ mu n s.1 < mu n s0.1 := by
  have e : s = passL n s0 (edL n) := by rw [h.st, List.take_length]
  refine ⟨e, h.inv, ?_⟩
  have h1 := passL_mu (l := edL n) s0 (ed_in n)
  rw [← e] at h1
  have h2 := h.len
  by_cases hq : s.2.length = s0.2.length
  · exfalso
    obtain ⟨q, l', rfl⟩ : ∃ q l', l = q :: l' := by
      cases l with
      | nil => exact absurd rfl hl
      | cons q l' => exact ⟨q, l', rfl⟩
    exact h.quiet hq q (by rw [List.take_length]; exact h.inv.sub q (by simp)) (by simp)
  · omega
theorem PassI.done {n : Nat} {s0 s : ClS} (h : PassI n s0 s [] (edL n).length) : s = passL n s0 (edL n) ∧ Qt n s.1 := ⟨by rw [h.st, List.take_length], h.inv.none⟩
end Go.Proofs.YtmdgkhebefnfeaaDoor.C
