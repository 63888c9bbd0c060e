/- The timeline of the ends of intervals. -/
import Derived.Test.YtmdgkhebefnfeabClp
import Derived.Test.YtmdgkhebefnfeabCmw
import Derived.Laws.EntriesVeiled
namespace Go.Proofs.Ytmdgkhebefnfeab.C
open Go.RowKit
set_option linter.unusedVariables false
set_option linter.unusedSimpArgs false
theorem Sb.self {b n : Nat} {f : Nat → Int} {w w' : World} (h : Sb b n f w w') : Sb b n f w' w' := ⟨Wr.refl _ _, h.lt, h.c, h.fr⟩
theorem Sb.far {b n : Nat} {f : Nat → Int} {w : World} (h : Sb b n f w w) (q i : Nat) (v : Value) (hq : q ≠ b) : Sb b n f (w.setCell ⟨q, i, none⟩ v) (w.setCell ⟨q, i, none⟩ v) := by
  have hq' : ¬ b = q := fun e => hq e.symm
  refine ⟨Wr.refl _ _, by simpa using h.lt, fun j hj => ?_, fun j hj => by simpa [go_sem] using h.fr j hj⟩
  have c1 := h.c j hj
  simp [go_sem, hq, hq', c1]
theorem Ded.same {f h h2 : Nat → Int} {n k : Nat} (hs : SameIn f h n) (hd : Ded h n h2 k) : Ded f n h2 k := ⟨hd.le, hd.up, fun x => (hd.mem x).trans (hs x).symm⟩
theorem Tv.made (w : World) (u v : Value) : Tv (w.alloc (.cells #[u, v, .func (.func 56) #[] #[]] 52)) w.heap.size u v := heap_alloc_new w _
set_option maxHeartbeats 1000000 in
theorem timelineOf_cap (g cap n : Nat) (f : Nat → Int) (w : World) (h : ∀ i, i < n → w.cell? ⟨g, i, none⟩ = some (.int .i64 (f i))) (hg : g < w.heap.size) (h1 : 1 ≤ n) (hn : n ≤ 12) (hc : n ≤ cap) :
    Calls Try.prog 55 #[.slice (some ⟨g, 0, none⟩) n cap, .func (.func 56) #[] #[]] w fun e w' =>
      ∃ b k cap' h, e = .returned (.agg #[.slice (some ⟨g, 0, none⟩) n cap, .slice (some ⟨b, 0, none⟩) k cap', .func (.func 56) #[] #[]]) ∧ (Ded f n h k ∧ k ≤ cap') ∧ w.heap.size ≤ b ∧ Sb b k h w' w' ∧ Below w.heap.size w w' := by
  have HH := hid h
  clear h
  have HS := AllLt.start w; go_enter Try.func55, Try.ntmps55
  go_wp2_with fail
  (with_reducible refine (clonep_any g cap n f _ (fun i hi => Lib.cell?_alloc_some _ (HH.out i hi)) h1 hn hc).mono ?_)
  rintro e w2 ⟨b, cb, rfl, hcb, hbb, hS, hb⟩
  have hr1 : (w.alloc (.cells #[.slice none 0 0, .slice none 0 0, .nilFunc] 52)).heap[w.heap.size]? = some (.cells #[.slice none 0 0, .slice none 0 0, .nilFunc] 52 (0, 0)) := heap_alloc_new w _
  have hs1 : w.heap.size < (w.alloc (.cells #[.slice none 0 0, .slice none 0 0, .nilFunc] 52)).heap.size := by simp
  have hr2 := (hb.block _ hs1).trans hr1
  have hs2 : w.heap.size < w2.heap.size := Nat.lt_of_lt_of_le hs1 hb.size
  have hB2 : Below w.heap.size w w2 := ((Below.refl _ w).alloc (Nat.le_refl _) _).trans (hb.mono (Nat.le_of_lt hs1))
  have hbne : w.heap.size < b := Nat.lt_of_lt_of_le hs1 hbb
  have hbl : b < w2.heap.size := hS.lt
  have T3 := Tv.made w2 (.slice (some ⟨g, 0, none⟩) n cap) (.slice (some ⟨b, 0, none⟩) n cb)
  have S3 := hS.below ((Below.refl w2.heap.size w2).alloc (Nat.le_refl _) (.cells #[.slice (some ⟨g, 0, none⟩) n cap, .slice (some ⟨b, 0, none⟩) n cb, .func (.func 56) #[] #[]] 52))
  have R3 := hr2
  rw [← ((Below.refl w2.heap.size w2).alloc (Nat.le_refl _) (.cells #[.slice (some ⟨g, 0, none⟩) n cap, .slice (some ⟨b, 0, none⟩) n cb, .func (.func 56) #[] #[]] 52)).block _ hs2] at R3
  have B3 := hB2.alloc (Nat.le_of_lt hs2) (.cells #[.slice (some ⟨g, 0, none⟩) n cap, .slice (some ⟨b, 0, none⟩) n cb, .func (.func 56) #[] #[]] 52)
  have HT3 := hid T3
  have HS3 := hid S3.self
  have HR3 := hid R3
  have HB3 := hid B3
  clear hS hb hr1 hr2 hB2 T3 S3 R3 B3 HH HS
  go_wp2_with fail
  generalize w2.alloc (.cells #[.slice (some ⟨g, 0, none⟩) n cap, .slice (some ⟨b, 0, none⟩) n cb, .func (.func 56) #[] #[]] 52) = w3 at *
  (with_reducible refine (sortF_any _ _ b cb n f w3 hn hcb HS3.out).mono ?_)
  rintro e w4 ⟨rfl, f4, hM, hU, hS4⟩
  have HT4 := hid (HT3.out.wr hS4.wr (by omega))
  have HR4 := hid ((hS4.wr.block _ (Nat.lt_of_lt_of_le hs2 (by have := HB3.out.size; have := HT3.out.lt; omega)) (by omega)).trans HR3.out)
  have HB4 := hid (HB3.out.trans (hS4.wr.below (by omega) (by have := HT3.out.lt; omega)))
  have HS4 := hid hS4.self
  have HM := hid hM
  have HU := hid hU
  clear hM hU hS4 HT3 HS3 HR3 HB3
  obtain ⟨c0, c1, c2⟩ := HT4.out.c
  go_wp2_with fail
  (with_reducible refine (compactF_any w2.heap.size _ _ b cb n f4 w4 hn hcb HU.out HS4.out HT4.out (by omega)).mono ?_)
  rintro e w5 ⟨k, h, rfl, hD, hS5⟩
  have HT5 := hid (HT4.out.wr hS5.wr (by omega))
  have HR5 := hid ((hS5.wr.block _ (by have := HT4.out.lt; omega) (by omega)).trans HR4.out)
  have HB5 := hid (HB4.out.trans (hS5.wr.below (by omega) (by have := HT4.out.lt; omega)))
  have HS5 := hid hS5.self
  have HD := hid (hD.same HM.out)
  clear hD hS5 HT4 HR4 HB4 HS4 HM HU c0 c1 c2
  obtain ⟨c0, c1, c2⟩ := HT5.out.c
  have d0 : w5.cell? ⟨w.heap.size, 0, none⟩ = some (.slice none 0 0) := by rw [cell_of_row w5 _ _ _ _ _ HR5.out]; rfl
  have d1 : w5.cell? ⟨w.heap.size, 1, none⟩ = some (.slice none 0 0) := by rw [cell_of_row w5 _ _ _ _ _ HR5.out]; rfl
  have d2 : w5.cell? ⟨w.heap.size, 2, none⟩ = some .nilFunc := by rw [cell_of_row w5 _ _ _ _ _ HR5.out]; rfl
  have f0 : ∀ i, w5.frozen? ⟨w.heap.size, i, none⟩ = false := fun i => frozen_of_row w5 _ i _ _ HR5.out
  have f1 : w5.frozen? ⟨w2.heap.size, 1, none⟩ = false := frozen_of_row w5 _ 1 _ _ HT5.out
  have e0 := f0 0
  have e1 := f0 1
  have e2 := f0 2
  have hne : ¬ w2.heap.size = w.heap.size := by omega
  have hne2 : ¬ w.heap.size = w2.heap.size := by omega
  go_wp2_with fail
  refine bodyPost_ret (by simp [results, Try.results55, go_sem, *]; try rfl) rfl ?_
  refine ⟨b, k, cb, h, rfl, ⟨HD.out, Nat.le_trans HD.out.le hcb⟩, Nat.le_of_lt hbne, (((HS5.out.far _ _ _ (by omega)).far _ _ _ (by omega)).far _ _ _ (by omega)).far _ _ _ (by omega), ?_⟩
  exact (((HB5.out.setCell (p := ⟨w2.heap.size, 1, none⟩) (Nat.le_of_lt hs2) _).setCell (p := ⟨w.heap.size, 0, none⟩) (Nat.le_refl _) _).setCell (p := ⟨w.heap.size, 1, none⟩) (Nat.le_refl _) _).setCell (p := ⟨w.heap.size, 2, none⟩) (Nat.le_refl _) _
theorem timelineOf_any (g cap n : Nat) (f : Nat → Int) (w : World) (h : ∀ i, i < n → w.cell? ⟨g, i, none⟩ = some (.int .i64 (f i))) (hg : g < w.heap.size) (h1 : 1 ≤ n) (hn : n ≤ 12) (hc : n ≤ cap) :
    Calls Try.prog 55 #[.slice (some ⟨g, 0, none⟩) n cap, .func (.func 56) #[] #[]] w fun e w' =>
      ∃ b k cap' h, e = .returned (.agg #[.slice (some ⟨g, 0, none⟩) n cap, .slice (some ⟨b, 0, none⟩) k cap', .func (.func 56) #[] #[]]) ∧ Ded f n h k ∧ w.heap.size ≤ b ∧ Sb b k h w' w' ∧ Below w.heap.size w w' := (timelineOf_cap g cap n f w h hg h1 hn hc).mono (by
    rintro e w' ⟨b, k, cap', h, rfl, ⟨q1, _⟩, q2, q3, q4⟩
    exact ⟨b, k, cap', h, rfl, q1, q2, q3, q4⟩)
end Go.Proofs.Ytmdgkhebefnfeab.C
