/- Networks of points as matrices of sets of orders: put, closed ones, the greatest closed one, narrowing. No program is named here. -/
import Derived.Test.YtmdgkhebefnfeaaDoorPure
namespace Go.Proofs.YtmdgkhebefnfeaaDoor.C
open Go.RowKit
set_option linter.unusedVariables false
set_option linter.unusedSimpArgs false
/-- a set turned -/
def tpn (r : Nat) : Nat := r % 2 * 4 + r / 2 % 2 * 2 + r / 4 % 2
def cptab : List Nat := [0, 0, 0, 0, 0, 0, 0, 0, 0, 1, 1, 1, 7, 7, 7, 7, 0, 1, 2, 3, 4, 5, 6, 7, 0, 1, 3, 3, 7, 7, 7, 7, 0, 7, 4, 7, 4, 7, 4, 7, 0, 7, 5, 7, 7, 7, 7, 7, 0, 7, 6, 7, 4, 7, 6, 7, 0, 7, 7, 7, 7, 7, 7, 7]
/-- what two sets compose to -/
def cpn (r s : Nat) : Nat := cptab.getD (8 * r + s) 0
/-- a set within a set -/
def sb (r s : Nat) : Bool := (r &&& s) == r
theorem b8 {p : Nat → Prop} (h : ∀ i : Fin 8, p i) {r : Nat} (hr : r < 8) : p r := h ⟨r, hr⟩
theorem tpn_lt8 : ∀ r : Fin 8, tpn r < 8 := by decide
theorem tpn_lt {r : Nat} (h : r < 8) : tpn r < 8 := b8 (p := fun r => tpn r < 8) tpn_lt8 h
theorem tpn_tpn8 : ∀ r : Fin 8, tpn (tpn r) = r := by decide
theorem tpn_tpn {r : Nat} (h : r < 8) : tpn (tpn r) = r := b8 (p := fun r => tpn (tpn r) = r) tpn_tpn8 h
theorem cpn_lt64 : ∀ r s : Fin 8, cpn r s < 8 := by decide +kernel
theorem cpn_lt {r s : Nat} (h : r < 8) (k : s < 8) : cpn r s < 8 := cpn_lt64 ⟨r, h⟩ ⟨s, k⟩
theorem tpn_and64 : ∀ r s : Fin 8, tpn (r.val &&& s.val) = (tpn r &&& tpn s) := by decide +kernel
theorem tpn_and {r s : Nat} (h : r < 8) (k : s < 8) : tpn (r &&& s) = (tpn r &&& tpn s) := tpn_and64 ⟨r, h⟩ ⟨s, k⟩
theorem and_lt64 : ∀ r s : Fin 8, (r.val &&& s.val) < 8 := by decide +kernel
theorem and_lt8 {r s : Nat} (h : r < 8) (k : s < 8) : (r &&& s) < 8 := and_lt64 ⟨r, h⟩ ⟨s, k⟩
theorem cpn_turn64 : ∀ r s : Fin 8, tpn (cpn r s) = cpn (tpn s) (tpn r) := by decide +kernel
theorem cpn_turn {r s : Nat} (h : r < 8) (k : s < 8) : tpn (cpn r s) = cpn (tpn s) (tpn r) := cpn_turn64 ⟨r, h⟩ ⟨s, k⟩
theorem cpn_monol : ∀ r t s : Fin 8, sb r t = true → sb (cpn r s) (cpn t s) = true := by decide +kernel
theorem cpn_monor : ∀ r t s : Fin 8, sb r t = true → sb (cpn s r) (cpn s t) = true := by decide +kernel
theorem sb_refl {r : Nat} : sb r r = true := by simp [sb]
theorem sb_and {a b c : Nat} : sb a b = true → sb a c = true → sb a (b &&& c) = true := by
  simp only [sb, beq_iff_eq]; intro h k; rw [← Nat.and_assoc, h, k]
theorem sb_trans {a b c : Nat} (h : sb a b = true) (k : sb b c = true) : sb a c = true := by
  simp only [sb, beq_iff_eq] at *; rw [← h, Nat.and_assoc, k]
theorem sb_l {a b : Nat} : sb (a &&& b) a = true := by simp only [sb, beq_iff_eq]; rw [Nat.and_comm a b, Nat.and_assoc, Nat.and_self]
theorem sb_r {a b : Nat} : sb (a &&& b) b = true := by simp only [sb, beq_iff_eq]; rw [Nat.and_assoc, Nat.and_self]
theorem sb_anti {a b : Nat} (h : sb a b = true) (k : sb b a = true) : a = b := by
  simp only [sb, beq_iff_eq] at *; rw [← h, Nat.and_comm, k]
theorem sb_and_eq {a b : Nat} : sb a b = true ↔ (a &&& b) = a := by simp [sb]
theorem sb_le64 : ∀ r s : Fin 8, sb r s = true → r.val ≤ s.val := by decide +kernel
theorem sb_le {r s : Nat} (h : r < 8) (k : s < 8) (e : sb r s = true) : r ≤ s := sb_le64 ⟨r, h⟩ ⟨s, k⟩ e
theorem sb_78 : ∀ r : Fin 8, sb r 7 = true := by decide +kernel
theorem sb_7 {r : Nat} (h : r < 8) : sb r 7 = true := sb_78 ⟨r, h⟩
theorem sb_turn64 : ∀ r s : Fin 8, sb r s = true → sb (tpn r) (tpn s) = true := by decide +kernel
theorem sb_turn {r s : Nat} (h : r < 8) (k : s < 8) (e : sb r s = true) : sb (tpn r) (tpn s) = true := sb_turn64 ⟨r, h⟩ ⟨s, k⟩ e
theorem cpn_mono {r r' s s' : Nat} (h : r < 8) (h' : r' < 8) (k : s < 8) (k' : s' < 8) (e : sb r r' = true) (f : sb s s' = true) : sb (cpn r s) (cpn r' s') = true :=
  sb_trans (cpn_monol ⟨r, h⟩ ⟨r', h'⟩ ⟨s, k⟩ e) (cpn_monor ⟨s, k⟩ ⟨s', k'⟩ ⟨r', h'⟩ f)
theorem cpn_2l8 : ∀ r : Fin 8, cpn 2 r = r := by decide +kernel
theorem cpn_2l {r : Nat} (h : r < 8) : cpn 2 r = r := b8 (p := fun r => cpn 2 r = r) cpn_2l8 h
theorem cpn_2r8 : ∀ r : Fin 8, cpn r 2 = r := by decide +kernel
theorem cpn_2r {r : Nat} (h : r < 8) : cpn r 2 = r := b8 (p := fun r => cpn r 2 = r) cpn_2r8 h
theorem tp_tpn8 : ∀ r : Fin 8, tp ((r.val : Nat) : Int) = ((tpn r : Nat) : Int) := by decide +kernel
theorem tp_tpn {r : Nat} (h : r < 8) : tp ((r : Nat) : Int) = ((tpn r : Nat) : Int) := b8 (p := fun r => tp ((r : Nat) : Int) = ((tpn r : Nat) : Int)) tp_tpn8 h
theorem cps_cpn64 : ∀ r s : Fin 8, cps ((r.val : Nat) : Int) ((s.val : Nat) : Int) = ((cpn r s : Nat) : Int) := by decide +kernel
theorem cps_cpn {r s : Nat} (h : r < 8) (k : s < 8) : cps ((r : Nat) : Int) ((s : Nat) : Int) = ((cpn r s : Nat) : Int) := cps_cpn64 ⟨r, h⟩ ⟨s, k⟩
/-! Networks -/
/-- A network of n points. -/
structure OkP (n : Nat) (N : Nat → Nat → Nat) : Prop where
  one : 1 ≤ n
  le : n ≤ 12
  lt : ∀ i k, i < n → k < n → N i k < 8
  dia : ∀ i, i < n → N i i = 2
  tur : ∀ i k, i < n → k < n → N k i = tpn (N i k)
def Tri (N : Nat → Nat → Nat) (a b c : Nat) : Prop := sb (N a c) (cpn (N a b) (N b c)) = true
/-- A closed network. -/
def Clo (n : Nat) (N : Nat → Nat → Nat) : Prop := ∀ a b c, a < n → b < n → c < n → a ≠ c → Tri N a b c
def SubP (n : Nat) (M N : Nat → Nat → Nat) : Prop := ∀ a b, a < n → b < n → sb (M a b) (N a b) = true
/-- C is the greatest closed network within N. -/
structure IsClo (n : Nat) (N C : Nat → Nat → Nat) : Prop where
  ok : OkP n C
  clo : Clo n C
  sub : SubP n C N
  top : ∀ M, OkP n M → Clo n M → SubP n M N → SubP n M C
theorem SubP.refl (n : Nat) (N : Nat → Nat → Nat) : SubP n N N := fun _ _ _ _ => sb_refl
theorem SubP.trans {n : Nat} {A B C : Nat → Nat → Nat} (h : SubP n A B) (k : SubP n B C) : SubP n A C := fun a b ha hb => sb_trans (h a b ha hb) (k a b ha hb)
theorem IsClo.uniq {n : Nat} {N C D : Nat → Nat → Nat} (h : IsClo n N C) (k : IsClo n N D) {a b : Nat} (ha : a < n) (hb : b < n) : C a b = D a b :=
  sb_anti (k.top C h.ok h.clo h.sub a b ha hb) (h.top D k.ok k.clo k.sub a b ha hb)
def putQ (N : Nat → Nat → Nat) (i k r : Nat) : Nat → Nat → Nat := fun a b => if a = i ∧ b = k then r else if a = k ∧ b = i then tpn r else N a b
theorem putQ_at (N : Nat → Nat → Nat) (i k r : Nat) : putQ N i k r i k = r := by simp [putQ]
theorem putQ_back (N : Nat → Nat → Nat) {i k : Nat} (r : Nat) (h : i ≠ k) : putQ N i k r k i = tpn r := by
  unfold putQ; rw [if_neg (by omega), if_pos ⟨rfl, rfl⟩]
theorem putQ_else (N : Nat → Nat → Nat) {i k a b : Nat} (r : Nat) (h : ¬ (a = i ∧ b = k)) (h' : ¬ (a = k ∧ b = i)) : putQ N i k r a b = N a b := by
  unfold putQ; rw [if_neg h, if_neg h']
theorem OkP.put {n : Nat} {N : Nat → Nat → Nat} (h : OkP n N) {i k r : Nat} (hi : i < n) (hk : k < n) (hik : i ≠ k) (hr : r < 8) : OkP n (putQ N i k r) where
  one := h.one
  le := h.le
  lt a b ha hb := by
    unfold putQ
    split
    · exact hr
    · split
      · exact tpn_lt hr
      · exact h.lt a b ha hb
  dia a ha := by rw [putQ_else N r (by omega) (by omega)]; exact h.dia a ha
  tur a b ha hb := by
    by_cases e : a = i ∧ b = k
    · obtain ⟨rfl, rfl⟩ := e
      rw [putQ_at, putQ_back N r hik]
    · by_cases e' : a = k ∧ b = i
      · obtain ⟨rfl, rfl⟩ := e'
        rw [putQ_at, putQ_back N r hik, tpn_tpn hr]
      · rw [putQ_else N r e e', putQ_else N r (by omega) (by omega)]
        exact h.tur a b ha hb
theorem put_sub {n : Nat} {N : Nat → Nat → Nat} (h : OkP n N) {i k s : Nat} (hi : i < n) (hk : k < n) (hik : i ≠ k) (hs : s < 8) : SubP n (putQ N i k (N i k &&& s)) N := by
  intro a b ha hb
  by_cases e : a = i ∧ b = k
  · obtain ⟨rfl, rfl⟩ := e
    rw [putQ_at]; exact sb_l
  · by_cases e' : a = k ∧ b = i
    · obtain ⟨rfl, rfl⟩ := e'
      rw [putQ_back N _ hik, tpn_and (h.lt _ _ hi hk) hs, h.tur _ _ hi hk]; exact sb_l
    · rw [putQ_else N _ e e']; exact sb_refl
/-- a network within another one, told by the pairs i < k -/
theorem sub_half {n : Nat} {M N : Nat → Nat → Nat} (hM : OkP n M) (hN : OkP n N) (h : ∀ i k, i < k → k < n → sb (M i k) (N i k) = true) : SubP n M N := by
  intro a b ha hb
  rcases Nat.lt_trichotomy a b with e | e | e
  · exact h a b e hb
  · subst e; rw [hM.dia a ha, hN.dia a ha]; rfl
  · rw [hM.tur b a hb ha, hN.tur b a hb ha]
    exact sb_turn (hM.lt _ _ hb ha) (hN.lt _ _ hb ha) (h b a e ha)
theorem put_top {n : Nat} {M N : Nat → Nat → Nat} (hM : OkP n M) (hN : OkP n N) {i k s : Nat} (hi : i < n) (hk : k < n) (hik : i ≠ k) (hs : s < 8) (hMN : SubP n M N) (h : sb (M i k) s = true) : SubP n M (putQ N i k (N i k &&& s)) := by
  intro a b ha hb
  by_cases e : a = i ∧ b = k
  · obtain ⟨rfl, rfl⟩ := e
    rw [putQ_at]; exact sb_and (hMN _ _ hi hk) h
  · by_cases e' : a = k ∧ b = i
    · obtain ⟨rfl, rfl⟩ := e'
      rw [putQ_back N _ hik, hM.tur _ _ hi hk]
      exact sb_turn (hM.lt _ _ hi hk) (and_lt8 (hN.lt _ _ hi hk) hs) (sb_and (hMN _ _ hi hk) h)
    · rw [putQ_else N _ e e']; exact hMN a b ha hb
theorem Tri.turn {n : Nat} {N : Nat → Nat → Nat} (h : OkP n N) {a b c : Nat} (ha : a < n) (hb : b < n) (hc : c < n) (t : Tri N a b c) : Tri N c b a := by
  unfold Tri at *
  rw [h.tur a c ha hc, h.tur b c hb hc, h.tur a b ha hb, ← cpn_turn (h.lt _ _ ha hb) (h.lt _ _ hb hc)]
  exact sb_turn (h.lt _ _ ha hc) (cpn_lt (h.lt _ _ ha hb) (h.lt _ _ hb hc)) t
/-- closed, told by the pairs i < k -/
theorem clo_half {n : Nat} {N : Nat → Nat → Nat} (h : OkP n N) (H : ∀ i k b, i < k → k < n → b < n → Tri N i b k) : Clo n N := by
  intro a b c ha hb hc hac
  rcases Nat.lt_or_ge a c with e | e
  · exact H a c b e hc hb
  · exact (H c a b (by omega) ha hb).turn h hc hb ha
/-- what a closed network has within N, it has within what a third point leaves -/
theorem clo_in {n : Nat} {M N : Nat → Nat → Nat} (hM : OkP n M) (hN : OkP n N) (hC : Clo n M) (hMN : SubP n M N) {a b c : Nat} (ha : a < n) (hb : b < n) (hc : c < n) (hac : a ≠ c) : sb (M a c) (cpn (N a b) (N b c)) = true :=
  sb_trans (hC a b c ha hb hc hac) (cpn_mono (hM.lt _ _ ha hb) (hN.lt _ _ ha hb) (hM.lt _ _ hb hc) (hN.lt _ _ hb hc) (hMN a b ha hb) (hMN b c hb hc))
/-! Narrowing -/
/-- all triangles with a leg -/
def Gd (n : Nat) (N : Nat → Nat → Nat) (a b : Nat) : Prop := (∀ c, c < n → c ≠ a → Tri N a b c) ∧ ∀ c, c < n → c ≠ b → Tri N c a b
theorem Gd.turn {n : Nat} {N : Nat → Nat → Nat} (h : OkP n N) {a b : Nat} (ha : a < n) (hb : b < n) (g : Gd n N a b) : Gd n N b a :=
  ⟨fun c hc hn => (g.2 c hc hn).turn h hc ha hb, fun c hc hn => (g.1 c hc hn).turn h ha hb hc⟩
/-- What narrowing a pair to a set makes of a network. -/
structure Nar (n : Nat) (N : Nat → Nat → Nat) (i k s : Nat) (N' : Nat → Nat → Nat) : Prop where
  ok : OkP n N'
  sub : SubP n N' N
  chg : ∀ a b, a < n → b < n → N' a b ≠ N a b → Gd n N' a b
  at' : i ≠ k → sb (N' i k) s = true
  top : ∀ M, OkP n M → Clo n M → SubP n M N → (i ≠ k → sb (M i k) s = true) → SubP n M N'
theorem Nar.keep {n : Nat} {N N' : Nat → Nat → Nat} {i k s : Nat} (h : Nar n N i k s N') {a b c : Nat} (ha : a < n) (hb : b < n) (hc : c < n) (hac : a ≠ c) (t : Tri N a b c) : Tri N' a b c := by
  by_cases e1 : N' a b = N a b
  · by_cases e2 : N' b c = N b c
    · unfold Tri at *
      rw [e1, e2]
      exact sb_trans (h.sub a c ha hc) t
    · exact (h.chg b c hb hc e2).2 a ha hac
  · exact (h.chg a b ha hb e1).1 c hc (fun e => hac e.symm)
theorem Nar.clo {n : Nat} {N N' : Nat → Nat → Nat} {i k s : Nat} (h : Nar n N i k s N') (hC : Clo n N) : Clo n N' := fun a b c ha hb hc hac => h.keep ha hb hc hac (hC a b c ha hb hc hac)
theorem Nar.gd {n : Nat} {N N' : Nat → Nat → Nat} {i k s : Nat} (h : Nar n N i k s N') {a b : Nat} (ha : a < n) (hb : b < n) (g : Gd n N a b) : Gd n N' a b :=
  ⟨fun c hc hn => h.keep ha hb hc (fun e => hn e.symm) (g.1 c hc hn), fun c hc hn => h.keep hc ha hb hn (g.2 c hc hn)⟩
theorem Nar.none {n : Nat} {N : Nat → Nat → Nat} (h : OkP n N) {i k s : Nat} (e : i = k ∨ (N i k &&& s) = N i k) : Nar n N i k s N where
  ok := h
  sub := SubP.refl n N
  chg a b _ _ hn := absurd rfl hn
  at' hik := sb_and_eq.2 (e.resolve_left hik)
  top M _ _ hM _ := hM
/-- What holds in the loop of narrowing when so many points are done. -/
structure NarI (n : Nat) (N : Nat → Nat → Nat) (i k s : Nat) (N' : Nat → Nat → Nat) (l : Nat) : Prop where
  ok : OkP n N'
  sub : SubP n N' (putQ N i k (N i k &&& s))
  chg : ∀ a b, a < n → b < n → N' a b ≠ putQ N i k (N i k &&& s) a b → Gd n N' a b
  don : N' i k = (N i k &&& s) → (∀ c, c < l → c ≠ i → Tri N' i k c) ∧ ∀ c, c < l → c ≠ k → Tri N' c i k
  top : ∀ M, OkP n M → Clo n M → SubP n M N → sb (M i k) s = true → SubP n M N'
section
variable {n : Nat} {N : Nat → Nat → Nat} {i k s : Nat}
theorem NarI.start (h : OkP n N) (hi : i < n) (hk : k < n) (hik : i ≠ k) (hs : s < 8) : NarI n N i k s (putQ N i k (N i k &&& s)) 0 where
  ok := h.put hi hk hik (and_lt8 (h.lt _ _ hi hk) hs)
  sub := SubP.refl _ _
  chg a b _ _ hn := absurd rfl hn
  don _ := ⟨fun c hc => absurd hc (by omega), fun c hc => absurd hc (by omega)⟩
  top M hM hC hMN hMs := put_top hM h hi hk hik hs hMN hMs
theorem NarI.left {N' : Nat → Nat → Nat} {l : Nat} (h : NarI n N i k s N' l) (hi : i < n) (hk : k < n) : sb (N' i k) (N i k &&& s) = true := by
  have := h.sub i k hi hk
  rw [putQ_at] at this
  exact this
theorem NarI.step {N' N1 N2 : Nat → Nat → Nat} {l : Nat} (hN : OkP n N) (hs : s < 8) (h : NarI n N i k s N' l) (hi : i < n) (hk : k < n) (hik : i ≠ k) (hl : l < n)
    (h1 : Nar n N' i l (cpn (N i k &&& s) (N' k l)) N1) (h2 : Nar n N1 l k (cpn (N1 l i) (N i k &&& s)) N2) : NarI n N i k s N2 (l + 1) where
  ok := h2.ok
  sub := h2.sub.trans (h1.sub.trans h.sub)
  chg a b ha hb hn := by
    by_cases e2 : N2 a b = N1 a b
    · by_cases e1 : N1 a b = N' a b
      · exact h2.gd ha hb (h1.gd ha hb (h.chg a b ha hb (by rw [← e1, ← e2]; exact hn)))
      · exact h2.gd ha hb (h1.chg a b ha hb e1)
    · exact h2.chg a b ha hb e2
  don e := by
    have hl' := and_lt8 (hN.lt _ _ hi hk) hs
    have e1 : N1 i k = (N i k &&& s) := sb_anti (sb_trans (h1.sub i k hi hk) (h.left hi hk)) (by rw [← e]; exact h2.sub i k hi hk)
    have e0 : N' i k = (N i k &&& s) := sb_anti (h.left hi hk) (by rw [← e1]; exact h1.sub i k hi hk)
    have hd := h.don e0
    refine ⟨fun c hc hn => ?_, fun c hc hn => ?_⟩
    · by_cases hcl : c < l
      · exact h2.keep hi hk (by omega) (fun e => hn e.symm) (h1.keep hi hk (by omega) (fun e => hn e.symm) (hd.1 c hcl hn))
      · obtain rfl : c = l := by omega
        refine h2.keep hi hk hl (fun e => hn e.symm) ?_
        by_cases ek : N1 k c = N' k c
        · unfold Tri
          rw [e1, ek]
          exact h1.at' (fun e => hn e.symm)
        · exact (h1.chg k c hk hl ek).2 i hi (fun e => hn e.symm)
    · by_cases hcl : c < l
      · exact h2.keep (by omega) hi hk hn (h1.keep (by omega) hi hk hn (hd.2 c hcl hn))
      · obtain rfl : c = l := by omega
        by_cases ek : N2 c i = N1 c i
        · unfold Tri
          rw [e, ek]
          exact h2.at' hn
        · exact (h2.chg c i hl hi ek).1 k hk (fun e => hn e.symm)
  top M hM hC hMN hMs := by
    have m0 := h.top M hM hC hMN hMs
    have hl' := and_lt8 (hN.lt _ _ hi hk) hs
    have mik : sb (M i k) (N i k &&& s) = true := sb_and (hMN i k hi hk) hMs
    have m1 := h1.top M hM hC m0 (fun hn => sb_trans (hC i k l hi hk hl hn) (cpn_mono (hM.lt _ _ hi hk) hl' (hM.lt _ _ hk hl) (h.ok.lt _ _ hk hl) mik (m0 k l hk hl)))
    exact h2.top M hM hC m1 (fun hn => sb_trans (hC l i k hl hi hk hn) (cpn_mono (hM.lt _ _ hl hi) (h1.ok.lt _ _ hl hi) (hM.lt _ _ hi hk) hl' (m1 l i hl hi) mik))
theorem NarI.done {N' : Nat → Nat → Nat} (hN : OkP n N) (hs : s < 8) (hi : i < n) (hk : k < n) (hik : i ≠ k) (h : NarI n N i k s N' n) : Nar n N i k s N' where
  ok := h.ok
  sub := h.sub.trans (put_sub hN hi hk hik hs)
  chg a b ha hb hn := by
    by_cases e : N' a b = putQ N i k (N i k &&& s) a b
    · by_cases e1 : a = i ∧ b = k
      · obtain ⟨rfl, rfl⟩ := e1
        rw [putQ_at] at e
        exact h.don e
      · by_cases e2 : a = k ∧ b = i
        · obtain ⟨rfl, rfl⟩ := e2
          rw [putQ_back N _ hik] at e
          have e' : N' b a = (N b a &&& s) := by
            rw [h.ok.tur a b ha hb, e, tpn_tpn (and_lt8 (hN.lt _ _ hb ha) hs)]
          exact Gd.turn h.ok hb ha (h.don e')
        · rw [putQ_else N _ e1 e2] at e
          exact absurd e hn
    · exact h.chg a b ha hb e
  at' _ := sb_trans (h.left hi hk) sb_r
  top M hM hC hMN hMs := h.top M hM hC hMN (hMs hik)
end
/-- how much a network has left -/
def muP (n : Nat) (N : Nat → Nat → Nat) : Nat := ((List.range n).map fun a => ((List.range n).map fun b => N a b).sum).sum
theorem sum_le {l : List Nat} {f g : Nat → Nat} (h : ∀ a ∈ l, f a ≤ g a) : (l.map f).sum ≤ (l.map g).sum := by
  induction l with
  | nil => simp
  | cons a l ih => simp only [List.map_cons, List.sum_cons]; have := h a (by simp); have := ih fun b hb => h b (by simp [hb]); omega
theorem sum_lt {l : List Nat} {f g : Nat → Nat} (h : ∀ a ∈ l, f a ≤ g a) {x : Nat} (hx : x ∈ l) (hlt : f x < g x) : (l.map f).sum < (l.map g).sum := by
  induction l with
  | nil => simp at hx
  | cons a l ih =>
    simp only [List.map_cons, List.sum_cons]
    have h1 := h a (by simp)
    have h2 := sum_le (l := l) fun b hb => h b (by simp [hb])
    rcases List.mem_cons.1 hx with rfl | hx
    · omega
    · have := ih (fun b hb => h b (by simp [hb])) hx; omega
theorem mu_sub {n : Nat} {M N : Nat → Nat → Nat} (hM : OkP n M) (hN : OkP n N) (h : SubP n M N) : muP n M ≤ muP n N :=
  sum_le fun a ha => sum_le fun b hb => by
    have ha := List.mem_range.1 ha
    have hb := List.mem_range.1 hb
    exact sb_le (hM.lt a b ha hb) (hN.lt a b ha hb) (h a b ha hb)
theorem mu_less {n : Nat} {M N : Nat → Nat → Nat} (hM : OkP n M) (hN : OkP n N) (h : SubP n M N) {i k : Nat} (hi : i < n) (hk : k < n) (hne : M i k ≠ N i k) : muP n M < muP n N :=
  sum_lt (x := i) (fun a ha => sum_le fun b hb => by
    have ha := List.mem_range.1 ha
    have hb := List.mem_range.1 hb
    exact sb_le (hM.lt a b ha hb) (hN.lt a b ha hb) (h a b ha hb)) (List.mem_range.2 hi) (sum_lt (x := k) (fun b hb => by
    have hb := List.mem_range.1 hb
    exact sb_le (hM.lt i b hi hb) (hN.lt i b hi hb) (h i b hi hb)) (List.mem_range.2 hk) (by
    have := sb_le (hM.lt i k hi hk) (hN.lt i k hi hk) (h i k hi hk); omega))
theorem mu_put {n : Nat} {N : Nat → Nat → Nat} (h : OkP n N) {i k s : Nat} (hi : i < n) (hk : k < n) (hik : i ≠ k) (hs : s < 8) (hne : (N i k &&& s) ≠ N i k) : muP n (putQ N i k (N i k &&& s)) < muP n N :=
  mu_less (h.put hi hk hik (and_lt8 (h.lt _ _ hi hk) hs)) h (put_sub h hi hk hik hs) hi hk (by rw [putQ_at]; exact hne)
/-! The free network, and closing pair by pair -/
def frQ (i k : Nat) : Nat := if i = k then 2 else 7
theorem frQ_ok {n : Nat} (h1 : 1 ≤ n) (h2 : n ≤ 12) : OkP n frQ where
  one := h1
  le := h2
  lt i k _ _ := by unfold frQ; split <;> omega
  dia i _ := by simp [frQ]
  tur i k _ _ := by
    unfold frQ
    by_cases e : i = k
    · rw [if_pos e, if_pos e.symm]; rfl
    · rw [if_neg e, if_neg (fun h => e h.symm)]; rfl
theorem frQ_top {n : Nat} {M : Nat → Nat → Nat} (h : OkP n M) : SubP n M frQ := by
  intro a b ha hb
  unfold frQ
  by_cases e : a = b
  · subst e; rw [if_pos rfl, h.dia a ha]; rfl
  · rw [if_neg e]; exact sb_7 (h.lt a b ha hb)
theorem frQ_clo (n : Nat) : Clo n frQ := by
  intro a b c ha hb hc hac
  unfold Tri frQ
  rw [if_neg hac]
  by_cases e : a = b
  · subst e; rw [if_pos rfl, if_neg hac]; rfl
  · rw [if_neg e]
    by_cases e2 : b = c
    · rw [if_pos e2]; rfl
    · rw [if_neg e2]; rfl
/-- Closing when some pairs are done. -/
structure ClsI (n : Nat) (N C : Nat → Nat → Nat) (l : List (Nat × Nat)) : Prop where
  ok : OkP n C
  clo : Clo n C
  sub : ∀ p ∈ l, sb (C p.1 p.2) (N p.1 p.2) = true
  top : ∀ M, OkP n M → Clo n M → SubP n M N → SubP n M C
theorem ClsI.start {n : Nat} {N : Nat → Nat → Nat} (h : OkP n N) : ClsI n N frQ [] := ⟨frQ_ok h.one h.le, frQ_clo n, fun p hp => (by cases hp), fun M hM _ _ => frQ_top hM⟩
theorem ClsI.step {n : Nat} {N C C' : Nat → Nat → Nat} {l : List (Nat × Nat)} (h : ClsI n N C l) {p : Nat × Nat} (h1 : p.1 < n) (h2 : p.2 < n) (h3 : p.1 ≠ p.2) (hl : ∀ q ∈ l, q.1 < n ∧ q.2 < n) (k : Nar n C p.1 p.2 (N p.1 p.2) C') : ClsI n N C' (l ++ [p]) where
  ok := k.ok
  clo := k.clo h.clo
  sub q hq := by
    rcases List.mem_append.1 hq with hq | hq
    · exact sb_trans (k.sub _ _ (hl q hq).1 (hl q hq).2) (h.sub q hq)
    · obtain rfl : q = p := by simpa using hq
      exact k.at' h3
  top M hM hC hMN := k.top M hM hC (h.top M hM hC hMN) fun _ => hMN _ _ h1 h2
theorem ClsI.done {n : Nat} {N C : Nat → Nat → Nat} {l : List (Nat × Nat)} (hN : OkP n N) (h : ClsI n N C l) (hl : ∀ i k, i < k → k < n → (i, k) ∈ l) : IsClo n N C :=
  ⟨h.ok, h.clo, sub_half h.ok hN fun i k hik hk => h.sub (i, k) (hl i k hik hk), h.top⟩
/-! Closing by passes -/
structure PasI (n : Nat) (N C : Nat → Nat → Nat) : Prop where
  ok : OkP n C
  sub : SubP n C N
  top : ∀ M, OkP n M → Clo n M → SubP n M N → SubP n M C
theorem PasI.start {n : Nat} {N : Nat → Nat → Nat} (h : OkP n N) : PasI n N N := ⟨h, SubP.refl _ _, fun _ _ _ h => h⟩
theorem PasI.step {n : Nat} {N C : Nat → Nat → Nat} (h : PasI n N C) {i k s : Nat} (hi : i < n) (hk : k < n) (hik : i ≠ k) (hs : s < 8) (hM : ∀ M, OkP n M → Clo n M → SubP n M C → sb (M i k) s = true) : PasI n N (putQ C i k (C i k &&& s)) where
  ok := h.ok.put hi hk hik (and_lt8 (h.ok.lt _ _ hi hk) hs)
  sub := (put_sub h.ok hi hk hik hs).trans h.sub
  top M hM' hC hMN := put_top hM' h.ok hi hk hik hs (h.top M hM' hC hMN) (hM M hM' hC (h.top M hM' hC hMN))
theorem PasI.done {n : Nat} {N C : Nat → Nat → Nat} (h : PasI n N C) (H : ∀ i k b, i < k → k < n → b < n → Tri C i b k) : IsClo n N C := ⟨h.ok, clo_half h.ok H, h.sub, h.top⟩
/-- the set of a pair with what so many third points leave of it -/
def byQ (N : Nat → Nat → Nat) (i k : Nat) : Nat → Nat
  | 0 => N i k
  | b + 1 => byQ N i k b &&& cpn (N i b) (N b k)
theorem byQ_sub {n : Nat} {N : Nat → Nat → Nat} (h : OkP n N) {i k : Nat} (hi : i < n) (hk : k < n) : ∀ b, b ≤ n → byQ N i k b < 8 ∧ sb (byQ N i k b) (N i k) = true ∧ ∀ c, c < b → sb (byQ N i k b) (cpn (N i c) (N c k)) = true
  | 0, _ => ⟨h.lt i k hi hk, sb_refl, fun c hc => absurd hc (by omega)⟩
  | b + 1, hb => by
    obtain ⟨h1, h2, h3⟩ := byQ_sub h hi hk b (by omega)
    refine ⟨and_lt8 h1 (cpn_lt (h.lt i b hi (by omega)) (h.lt b k (by omega) hk)), sb_trans sb_l h2, fun c hc => ?_⟩
    by_cases e : c < b
    · exact sb_trans sb_l (h3 c e)
    · obtain rfl : c = b := by omega
      exact sb_r
theorem byQ_top {n : Nat} {M N : Nat → Nat → Nat} (hM : OkP n M) (hN : OkP n N) (hC : Clo n M) (hMN : SubP n M N) {i k : Nat} (hi : i < n) (hk : k < n) (hik : i ≠ k) : ∀ b, b ≤ n → sb (M i k) (byQ N i k b) = true
  | 0, _ => hMN i k hi hk
  | b + 1, hb => sb_and (byQ_top hM hN hC hMN hi hk hik b (by omega)) (clo_in hM hN hC hMN hi (by omega) hk hik)
theorem and_sb {a b : Nat} (h : sb a b = true) : (b &&& a) = a := by rw [Nat.and_comm]; exact sb_and_eq.1 h
theorem PasI.pair {n : Nat} {N C : Nat → Nat → Nat} (h : PasI n N C) {i k : Nat} (hi : i < n) (hk : k < n) (hik : i ≠ k) : PasI n N (putQ C i k (byQ C i k n)) := by
  obtain ⟨h1, h2, _⟩ := byQ_sub h.ok hi hk n (Nat.le_refl _)
  have := h.step hi hk hik h1 (fun M hM hC hMC => byQ_top hM h.ok hC hMC hi hk hik n (Nat.le_refl _))
  rw [and_sb h2] at this
  exact this
theorem byQ_same {n : Nat} {C : Nat → Nat → Nat} (h : OkP n C) {i k : Nat} (hi : i < n) (hk : k < n) (e : byQ C i k n = C i k) : ∀ b, b < n → Tri C i b k := fun b hb => by
  have := (byQ_sub h hi hk n (Nat.le_refl _)).2.2 b hb
  rw [e] at this
  exact this
end Go.Proofs.YtmdgkhebefnfeaaDoor.C
