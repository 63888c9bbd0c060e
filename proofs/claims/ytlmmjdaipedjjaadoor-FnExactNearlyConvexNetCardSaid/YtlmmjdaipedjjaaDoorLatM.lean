/- Chapter 4's laws: hulls and closures by bits. No program is named here. -/
import Derived.Test.YtlmmjdaipedjjaaDoorLatP
import Derived.Test.YtlmmjdaipedjjaaDoorCmpM
namespace Go.Proofs.YtlmmjdaipedjjaaDoor.C
open Go.RowKit
set_option linter.unusedVariables false
set_option linter.unusedSimpArgs false
/-- what is near, as numbers -/
def nearM : List Nat := [3, 2, 206, 72, 120, 96, 64, 192, 960, 576, 3680, 2048, 6144]
def closT (n : Nat) : Nat := orN (fun b => if n.testBit b then nearM.getD b 0 else 0) 13
theorem near_base {b c : Nat} (hb : b < 13) (hc : c < 13) : (nearM.getD b 0).testBit c = nearB b c := by
  have h : all13 (fun b => all13 fun c => (nearM.getD b 0).testBit c == nearB b c) = true := by decide +kernel
  simpa using all13_of (all13_of h hb) hc
theorem near_lt {b : Nat} (hb : b < 13) : nearM.getD b 0 < 8192 := by
  have h : all13 (fun b => decide (nearM.getD b 0 < 8192)) = true := by decide +kernel
  exact of_decide_eq_true (all13_of h hb)
theorem closN_test {n j : Nat} (hj : j < 13) : (closN n).testBit j = true ↔ ∃ b, b < 13 ∧ n.testBit b = true ∧ nearB b j = true := by
  rw [closN, whN_test hj, List.any_eq_true]
  constructor
  · rintro ⟨x, hx, h⟩; exact ⟨x, (bl_mem.1 hx).1, (bl_mem.1 hx).2, h⟩
  · rintro ⟨x, h1, h2, h⟩; exact ⟨x, bl_mem.2 ⟨h1, h2⟩, h⟩
theorem closT_lt (n : Nat) : closT n < 8192 := orN_lt fun b hb => by
  split
  · exact near_lt hb
  · decide
theorem clos_t (n : Nat) : closN n = closT n := by
  refine set_ext (closN_lt _) (closT_lt _) fun j hj => ?_
  rw [Bool.eq_iff_iff, closN_test hj, closT, orN_test]
  constructor
  · rintro ⟨b, hb, h1, h2⟩
    exact ⟨b, hb, by rw [if_pos h1, near_base hb hj]; exact h2⟩
  · rintro ⟨b, hb, h⟩
    split at h
    · rename_i h1
      rw [near_base hb hj] at h
      exact ⟨b, hb, h1, h⟩
    · simp at h
/-- least and greatest zones -/
theorem loZ_snd (z : Nat → Int) : ∀ (l : List Nat) (a : Int), (l.foldl (fun a k => min a (z k)) a ≤ a) ∧ (∀ k ∈ l, l.foldl (fun a k => min a (z k)) a ≤ z k) ∧ ∀ b : Int, b ≤ a → (∀ k ∈ l, b ≤ z k) → b ≤ l.foldl (fun a k => min a (z k)) a
  | [], a => ⟨Int.le_refl _, fun k h => by simp at h, fun b h _ => h⟩
  | x :: l, a => by
    obtain ⟨h1, h2, h3⟩ := loZ_snd z l (min a (z x))
    simp only [List.foldl_cons]
    refine ⟨by omega, fun k hk => ?_, fun b hb hz => h3 b ?_ fun k hk => hz k (List.mem_cons_of_mem _ hk)⟩
    · rcases List.mem_cons.1 hk with rfl | h
      · omega
      · exact h2 k h
    · have := hz x (by simp)
      omega
theorem hiZ_snd (z : Nat → Int) : ∀ (l : List Nat) (a : Int), (a ≤ l.foldl (fun a k => max a (z k)) a) ∧ (∀ k ∈ l, z k ≤ l.foldl (fun a k => max a (z k)) a) ∧ ∀ b : Int, a ≤ b → (∀ k ∈ l, z k ≤ b) → l.foldl (fun a k => max a (z k)) a ≤ b
  | [], a => ⟨Int.le_refl _, fun k h => by simp at h, fun b h _ => h⟩
  | x :: l, a => by
    obtain ⟨h1, h2, h3⟩ := hiZ_snd z l (max a (z x))
    simp only [List.foldl_cons]
    refine ⟨by omega, fun k hk => ?_, fun b hb hz => h3 b ?_ fun k hk => hz k (List.mem_cons_of_mem _ hk)⟩
    · rcases List.mem_cons.1 hk with rfl | h
      · omega
      · exact h2 k h
    · have := hz x (by simp)
      omega
theorem hull_test {n j : Nat} (hj : j < 13) : (hull n).testBit j = inZ (loZ zf (bl n.testBit 13)) (hiZ zf (bl n.testBit 13)) (loZ zt (bl n.testBit 13)) (hiZ zt (bl n.testBit 13)) j := whN_test hj
theorem inZ_iff {a b c d : Int} {k : Nat} : inZ a b c d k = true ↔ (a ≤ zf k ∧ zf k ≤ b) ∧ c ≤ zt k ∧ zt k ≤ d := by simp [inZ, btw]
/-- a set within another one -/
def subN (a b : Nat) : Prop := ∀ j, j < 13 → a.testBit j = true → b.testBit j = true
theorem subN_anti {a b : Nat} (ha : a < 8192) (hb : b < 8192) (h : subN a b) (h' : subN b a) : a = b :=
  set_ext ha hb fun j hj => by rw [Bool.eq_iff_iff]; exact ⟨h j hj, h' j hj⟩
theorem subN_or {a b : Nat} (ha : a < 8192) (hb : b < 8192) : subN a b ↔ b ||| a = b := by
  constructor
  · intro h
    refine set_ext (or_lt hb ha) hb fun j hj => ?_
    rw [Nat.testBit_or, Bool.eq_iff_iff, Bool.or_eq_true]
    exact ⟨fun o => o.elim id (h j hj), .inl⟩
  · intro h j hj hj2
    rw [← h, Nat.testBit_or, hj2, Bool.or_true]
theorem hull_sup (n : Nat) : subN n (hull n) := fun j hj h => by
  have hm : j ∈ bl n.testBit 13 := bl_mem.2 ⟨hj, h⟩
  rw [hull_test hj, inZ_iff]
  exact ⟨⟨(loZ_snd zf _ 4).2.1 j hm, (hiZ_snd zf _ 0).2.1 j hm⟩, (loZ_snd zt _ 4).2.1 j hm, (hiZ_snd zt _ 0).2.1 j hm⟩
theorem hull_into {n m : Nat} (h : subN n (hull m)) : subN (hull n) (hull m) := fun j hj hb => by
  rw [hull_test hj, inZ_iff] at hb
  rw [hull_test hj, inZ_iff]
  have key : ∀ k ∈ bl n.testBit 13, _ := fun k hk => inZ_iff.1 (by rw [← hull_test (n := m) (bl_mem.1 hk).1]; exact h k (bl_mem.1 hk).1 (bl_mem.1 hk).2)
  have g1 := (loZ_snd zf (bl n.testBit 13) 4).2.2 _ (loZ_snd zf (bl m.testBit 13) 4).1 fun k hk => (key k hk).1.1
  have g2 := (hiZ_snd zf (bl n.testBit 13) 0).2.2 _ (hiZ_snd zf (bl m.testBit 13) 0).1 fun k hk => (key k hk).1.2
  have g3 := (loZ_snd zt (bl n.testBit 13) 4).2.2 _ (loZ_snd zt (bl m.testBit 13) 4).1 fun k hk => (key k hk).2.1
  have g4 := (hiZ_snd zt (bl n.testBit 13) 0).2.2 _ (hiZ_snd zt (bl m.testBit 13) 0).1 fun k hk => (key k hk).2.2
  exact ⟨⟨Int.le_trans g1 hb.1.1, Int.le_trans hb.1.2 g2⟩, Int.le_trans g3 hb.2.1, Int.le_trans hb.2.2 g4⟩
theorem hull_idem (n : Nat) : hull (hull n) = hull n := subN_anti (hull_lt _) (hull_lt _) (hull_into fun j _ h => h) (hull_sup _)
theorem hull_sub {n : Nat} (h : n < 8192) : hull n ||| n = hull n := (subN_or h (hull_lt n)).1 (hull_sup n)
/-- the convex ones -/
def cvL : List Nat := [0, 1, 2, 3, 4, 6, 7, 8, 12, 14, 15, 16, 24, 28, 30, 31, 32, 48, 64, 72, 96, 120, 128, 132, 134, 135, 192, 204, 206, 207, 224, 252, 254, 255, 256, 384, 388, 390, 391, 512, 576, 584, 768, 960, 972, 974, 975, 1024, 1056, 1072, 1536, 1632, 1656, 1792, 2016, 2044, 2046, 2047, 2048, 3072, 3104, 3120, 3584, 3680, 3704, 3840, 4064, 4092, 4094, 4095, 4096, 6144, 7168, 7200, 7216, 7680, 7776, 7800, 7936, 8160, 8188, 8190, 8191]
theorem cvL_lt : ∀ x ∈ cvL, x < 8192 := by decide +kernel
theorem cvL_hull : ∀ x ∈ cvL, hull x = x := by decide +kernel
def all5 (p : Nat → Bool) : Bool := allB p 5
theorem all5_of {p : Nat → Bool} (h : all5 p = true) {n : Int} (h0 : 0 ≤ n) (hn : n ≤ 4) : ∃ m : Nat, n = m ∧ p m = true := ⟨n.toNat, by omega, allB_of h n.toNat (by omega)⟩
theorem hull_in (n : Nat) : hull n ∈ cvL := by
  have H : all5 (fun a => all5 fun b => all5 fun c => all5 fun d => cvL.contains (whN (inZ a b c d))) = true := by decide +kernel
  have b1 := (loZ_snd zf (bl n.testBit 13) 4).1
  have b2 := (loZ_snd zf (bl n.testBit 13) 4).2.2 0 (by decide) fun k hk => (zf_in (bl_mem.1 hk).1).1
  have b3 := (hiZ_snd zf (bl n.testBit 13) 0).1
  have b4 := (hiZ_snd zf (bl n.testBit 13) 0).2.2 4 (by decide) fun k hk => (zf_in (bl_mem.1 hk).1).2
  have b5 := (loZ_snd zt (bl n.testBit 13) 4).1
  have b6 := (loZ_snd zt (bl n.testBit 13) 4).2.2 0 (by decide) fun k hk => (zt_in (bl_mem.1 hk).1).1
  have b7 := (hiZ_snd zt (bl n.testBit 13) 0).1
  have b8 := (hiZ_snd zt (bl n.testBit 13) 0).2.2 4 (by decide) fun k hk => (zt_in (bl_mem.1 hk).1).2
  obtain ⟨a, ea, Ha⟩ := all5_of H b2 b1
  obtain ⟨b, eb, Hb⟩ := all5_of Ha b3 b4
  obtain ⟨c, ec, Hc⟩ := all5_of Hb b6 b5
  obtain ⟨d, ed, Hd⟩ := all5_of Hc b7 b8
  have e : hull n = whN (inZ a b c d) := by unfold hull loZ hiZ; rw [ea, eb, ec, ed]
  rw [e]
  simpa using Hd
theorem cv_iff {x : Nat} : hull x = x ↔ x ∈ cvL := ⟨fun h => by rw [← h]; exact hull_in x, cvL_hull x⟩
theorem cvL_tur : ∀ x ∈ cvL, turN x ∈ cvL := by decide +kernel
theorem cvL_mir : ∀ x ∈ cvL, mirN x ∈ cvL := by decide +kernel
theorem turN_sub {a b : Nat} (h : subN a b) : subN (turN a) (turN b) := fun j hj => by rw [turN_test hj, turN_test hj]; exact h _ (turF_lt hj)
theorem mirN_sub {a b : Nat} (h : subN a b) : subN (mirN a) (mirN b) := fun j hj => by rw [mirN_test hj, mirN_test hj]; exact h _ (miN_lt hj)
theorem hull_least {n y : Nat} (h : subN n y) (hy : y ∈ cvL) : subN (hull n) y := by
  rw [← cvL_hull y hy] at h ⊢
  exact hull_into h
theorem hull_tur {n : Nat} (h : n < 8192) : turN (hull n) = hull (turN n) := by
  have k1 : ∀ n, subN (hull (turN n)) (turN (hull n)) := fun n => hull_least (turN_sub (hull_sup n)) (cvL_tur _ (hull_in n))
  refine subN_anti (turN_lt _) (hull_lt _) ?_ (k1 n)
  have := turN_sub (k1 (turN n))
  rw [tt_n h, tt_n (hull_lt _)] at this
  exact this
theorem hull_mir {n : Nat} (h : n < 8192) : mirN (hull n) = hull (mirN n) := by
  have k1 : ∀ n, subN (hull (mirN n)) (mirN (hull n)) := fun n => hull_least (mirN_sub (hull_sup n)) (cvL_mir _ (hull_in n))
  refine subN_anti (mirN_lt _) (hull_lt _) ?_ (k1 n)
  have := mirN_sub (k1 (mirN n))
  rw [mm_n h, mm_n (hull_lt _)] at this
  exact this
theorem hull_and {a b : Nat} (ha : a ∈ cvL) (hb : b ∈ cvL) : a &&& b ∈ cvL := by
  have H : (cvL.all fun a => cvL.all fun b => cvL.contains (a &&& b)) = true := by decide +kernel
  have := List.all_eq_true.1 (List.all_eq_true.1 H a ha) b hb
  simpa using this
end Go.Proofs.YtlmmjdaipedjjaaDoor.C
