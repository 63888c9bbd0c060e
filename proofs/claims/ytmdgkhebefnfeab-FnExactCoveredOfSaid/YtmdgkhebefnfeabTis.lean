/- Slices of integers for reading, and their copies by the laws. -/
import Derived.Test.YtmdgkhebefnfeabEndsX
namespace Go.Proofs.Ytmdgkhebefnfeab.C
open Go.RowKit
set_option linter.unusedVariables false
set_option linter.unusedSimpArgs false
/-- A slice of integers for reading, in blocks that lie. -/
def SlB (w : World) (v : Value) (n : Nat) (f : Nat → Int) : Prop :=
  (n = 0 ∧ ∃ a c, v = .slice a 0 c) ∨ ∃ b o cap, v = .slice (some ⟨b, o, none⟩) n cap ∧ n ≤ cap ∧ b < w.heap.size ∧ ∀ i, i < n → w.cell? ⟨b, o + i, none⟩ = some (.int .i64 (f i))
theorem SlB.below {w w' : World} {v : Value} {n : Nat} {f : Nat → Int} (h : SlB w v n f) (hb : Below w.heap.size w w') : SlB w' v n f := by
  rcases h with h | ⟨b, o, cap, h1, h2, h3, h4⟩
  · exact .inl h
  · exact .inr ⟨b, o, cap, h1, h2, Nat.lt_of_lt_of_le h3 hb.size, fun i hi => (hb.cell (p := ⟨b, o + i, none⟩) h3).trans (h4 i hi)⟩
theorem SlB.of_new {w w' : World} {v : Value} {n : Nat} {f : Nat → Int} (h : NewSl w n f v w') : SlB w' v n f := by
  rcases h.2 with h | ⟨b, cap, h1, h2, h3, h4, h5, h6⟩
  · exact .inl h
  · exact .inr ⟨b, 0, cap, h1, h2, h4, fun i hi => by rw [Nat.zero_add]; exact h5 i hi⟩
theorem SlB.lens {w : World} {v : Value} {n : Nat} {f : Nat → Int} (h : SlB w v n f) : ∃ a cap, v = .slice a n cap ∧ n ≤ cap ∧ ∀ i, i < n → ∃ b o, a = some ⟨b, o, none⟩ ∧ b < w.heap.size ∧ w.cell? ⟨b, o + i, none⟩ = some (.int .i64 (f i)) := by
  rcases h with ⟨rfl, a, c, rfl⟩ | ⟨b, o, cap, rfl, h2, h3, h4⟩
  · exact ⟨a, c, rfl, Nat.zero_le _, fun i hi => by omega⟩
  · exact ⟨_, cap, rfl, h2, fun i hi => ⟨b, o, rfl, h3, h4 i hi⟩⟩
theorem intInfo5 : (Try.prog.info? 3).map (fun i => (i.zero, i.size, i.bytes)) = some (some (.int .i64 0), 1, 8) := by kernel_rfl
/-- A copy under way: block b holds n numbers, the first i are f's. -/
structure Cop (w : World) (b n i : Nat) (f : Nat → Int) : Prop where
  c : ∀ j, j < i → w.cell? ⟨b, j, none⟩ = some (.int .i64 (f j))
  s : ∀ j, j < n → ∃ u, w.cell? ⟨b, j, none⟩ = some u
  f : ∀ j, w.frozen? ⟨b, j, none⟩ = false
  lt : b < w.heap.size
theorem Cop.set {w : World} {b n i : Nat} {f : Nat → Int} (h : Cop w b n i f) (hi : i < n) : Cop (w.setCell ⟨b, i, none⟩ (.int .i64 (f i))) b n (i + 1) f := by
  obtain ⟨u, hu⟩ := h.s i hi
  refine ⟨fun j hj => ?_, fun j hj => ?_, fun j => by simp [go_sem, h.f j], by rw [World.size_setCell]; exact h.lt⟩
  · by_cases e : j = i
    · subst e
      simp [go_sem, hu]
    · have e2 : ¬ i = j := fun h => e h.symm
      simp [go_sem, e, e2, h.c j (by omega)]
  · by_cases e : j = i
    · subst e
      exact ⟨.int .i64 (f j), by simp [go_sem, hu]⟩
    · have e2 : ¬ i = j := fun h => e h.symm
      obtain ⟨u', hu'⟩ := h.s j hj
      exact ⟨u', by simp [go_sem, e, e2, hu']⟩
set_option maxHeartbeats 1000000 in
theorem toIntR_any (a : Option Addr) (cap n : Nat) (f : Nat → Int) (hn : n ≤ 1048576) (w : World) (hcap : n ≤ cap) (h3 : ∀ i, i < n → ∃ x : Addr, a = some x ∧ x.block < w.heap.size ∧ w.cell? (x.add i) = some (.int .i64 (f i))) :
    Calls Try.prog 20 #[.slice a n cap] w fun e w' => e = .returned (.slice (some ⟨w.heap.size, 0, none⟩) n n) ∧ Below w.heap.size w w' ∧ w.heap.size < w'.heap.size ∧ (∀ i, i < n → w'.cell? ⟨w.heap.size, i, none⟩ = some (.int .i64 (f i))) ∧ ∀ i, i < n → w'.frozen? ⟨w.heap.size, i, none⟩ = false := by
  have H3 := hid h3
  clear h3
  obtain ⟨i0, hi0, hz0, hz1, hz2⟩ := info_parts intInfo5
  have HS := AllLt.start w; go_enter Try.func20, Try.ntmps20
  go_wp2_with (at_make; refine wpList_make_full _ rfl _ _ 29 rfl w.heap.size 3 i0 (.int .i64 0) 1 Try.underlying29 hi0 hz0 hz1 .i64 .i64 _ _ n rfl rfl rfl rfl (by rw [hz2]; omega) (by unfold maxLen; omega) (Nat.le_refl _) ?_; intro w1 hown hgrow)
  have HC0 : Hid (Cop w1 w.heap.size n 0 f ∧ Below w.heap.size w w1) := hid (by
    refine ⟨?_, (Below.refl _ _).grown hgrow (Nat.le_refl _) (fun k hk => by cases hk)⟩
    rcases hown.2 with ⟨h, _⟩ | ⟨g, cap, cur, h1, h2, h3, h4, h5, h6, h7⟩
    · cases h
    · simp only [Value.slice.injEq, Option.some.injEq, Addr.mk.injEq, and_true] at h1
      obtain ⟨rfl, _, rfl⟩ := h1
      refine ⟨fun j hj => by omega, fun j hj => ⟨cur[j]'(by omega), by simp [World.cell?, h3, show j < cur.size by omega]⟩, fun j => by simp [World.frozen?, h3], (Array.getElem?_eq_some_iff.1 h3).1⟩)
  clear hown hgrow
  go_loopw [4] (fun i wr => ∃ k : Nat, k ≤ n ∧ i = .int .i64 k ∧ Hid (Cop wr w.heap.size n k f ∧ Below w.heap.size w wr)) (fun i _ => n - (intOf i).toNat)
  case atStart => exact ⟨0, by omega, rfl, HC0⟩
  case round =>
    obtain ⟨k, hk, rfl, HK⟩ := hrel
    clear HS HC0
    obtain ⟨wi, rfl⟩ : ∃ wi : World, wi = wr := ⟨_, rfl⟩
    by_cases hlt : k < n
    · have hdi : decide ((k : Int) < (n : Int)) = true := by simp; omega
      have hdj : decide (k < n) = true := by simp; omega
      obtain ⟨x, rfl, hb, hc⟩ := H3.out k hlt
      have cx : wi.cell? (x.add k) = some (.int .i64 (f k)) := by rw [HK.out.2.cell (p := x.add k) (by rw [show (x.add k).block = x.block from by unfold Addr.add; split <;> rfl]; exact hb)]; exact hc
      obtain ⟨u, cu⟩ := HK.out.1.s k hlt
      have fu := HK.out.1.f k
      have lu := HK.out.1.lt
      have HK2 : Hid (Cop (wi.setCell ⟨w.heap.size, k, none⟩ (.int .i64 (f k))) w.heap.size n (k + 1) f ∧ Below w.heap.size w (wi.setCell ⟨w.heap.size, k, none⟩ (.int .i64 (f k)))) := hid ⟨HK.out.1.set hlt, HK.out.2.setCell (p := ⟨w.heap.size, k, none⟩) (Nat.le_refl _) _⟩
      clear HK hc
      generalize f k = y at *
      go_wp2
      go_roundw
      case rel => exact ⟨k + 1, by omega, by go_num, HK2⟩
      case measure => simp [intOf]; omega
    · obtain rfl : k = n := by omega
      have hdi : decide ((k : Int) < (k : Int)) = false := by simp
      go_wp2
      go_ret
      exact ⟨rfl, HK.out.2, HK.out.1.lt, HK.out.1.c, fun j _ => HK.out.1.f j⟩
theorem toIntS_any (a : Option Addr) (cap n : Nat) (f : Nat → Int) (hn : n ≤ 1048576) (w : World) (hcap : n ≤ cap) (h3 : ∀ i, i < n → ∃ x : Addr, a = some x ∧ x.block < w.heap.size ∧ w.cell? (x.add i) = some (.int .i64 (f i))) :
    Calls Try.prog 20 #[.slice a n cap] w (NewS w n f) :=
  (toIntR_any a cap n f hn w hcap h3).mono (by
    rintro e w' ⟨rfl, h1, h2, h4, h5⟩
    exact ⟨_, rfl, h1, .inr ⟨_, _, rfl, Nat.le_refl _, Nat.le_refl _, h2, h4, h5⟩⟩)
theorem IsRow.at {w : World} {a : Option Addr} {len cap : Nat} {zs : List Int} (h : IsRow .i64 w a len cap zs) : len ≤ cap ∧ ∀ i, i < len → ∃ x : Addr, a = some x ∧ x.block < w.heap.size ∧ w.cell? (x.add i) = some (.int .i64 (zs.getD i 0)) := by
  have hl := h.lt
  rcases h with ⟨rfl, rfl, rfl, rfl⟩ | ⟨x, rfl, h1, h2, h3, h4, h5⟩
  · exact ⟨Nat.le_refl _, fun i hi => by omega⟩
  · exact ⟨h1, fun i hi => ⟨x, rfl, hl x rfl (by omega), h4 i (by omega)⟩⟩
theorem NewSl.slB {w w' : World} {v : Value} {n : Nat} {f : Nat → Int} (h : NewSl w n f v w') : Below w.heap.size w w' ∧ SlB w' v n f := ⟨h.1, SlB.of_new h⟩
end Go.Proofs.Ytmdgkhebefnfeab.C
