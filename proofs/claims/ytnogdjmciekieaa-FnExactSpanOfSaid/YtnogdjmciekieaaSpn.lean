/- The interval of all intervals of a plan: the program. -/
import Derived.Test.YtnogdjmciekieaaTlp
namespace Go.Proofs.Ytnogdjmciekieaa.C
open Go.RowKit
set_option linter.unusedVariables false
set_option linter.unusedSimpArgs false
/-- the least and the greatest of some numbers -/
def loF (f : Nat → Int) : Nat → Int
  | 0 => f 0
  | n + 1 => min (loF f n) (f (n + 1))
def hiF (f : Nat → Int) : Nat → Int
  | 0 => f 0
  | n + 1 => max (hiF f n) (f (n + 1))
theorem loF_le {f : Nat → Int} : ∀ {n i : Nat}, i ≤ n → loF f n ≤ f i
  | 0, i, h => by obtain rfl : i = 0 := by omega
                  exact Int.le_refl _
  | n + 1, i, h => by
    unfold loF
    by_cases e : i = n + 1
    · subst e; omega
    · have := loF_le (f := f) (n := n) (i := i) (by omega); omega
theorem le_hiF {f : Nat → Int} : ∀ {n i : Nat}, i ≤ n → f i ≤ hiF f n
  | 0, i, h => by obtain rfl : i = 0 := by omega
                  exact Int.le_refl _
  | n + 1, i, h => by
    unfold hiF
    by_cases e : i = n + 1
    · subst e; omega
    · have := le_hiF (f := f) (n := n) (i := i) (by omega); omega
theorem loF_in {f : Nat → Int} : ∀ n, ∃ i, i ≤ n ∧ loF f n = f i
  | 0 => ⟨0, Nat.le_refl _, rfl⟩
  | n + 1 => by
    obtain ⟨i, hi, e⟩ := loF_in (f := f) n
    unfold loF
    by_cases h : loF f n ≤ f (n + 1)
    · exact ⟨i, by omega, by omega⟩
    · exact ⟨n + 1, Nat.le_refl _, by omega⟩
theorem hiF_in {f : Nat → Int} : ∀ n, ∃ i, i ≤ n ∧ hiF f n = f i
  | 0 => ⟨0, Nat.le_refl _, rfl⟩
  | n + 1 => by
    obtain ⟨i, hi, e⟩ := hiF_in (f := f) n
    unfold hiF
    by_cases h : f (n + 1) ≤ hiF f n
    · exact ⟨i, by omega, by omega⟩
    · exact ⟨n + 1, Nat.le_refl _, by omega⟩
theorem Ded.lo {F T : Nat → Int} {n k : Nat} {h : Nat → Int} (hD : Ded (enF F T) (2 * (n + 1)) h k) (hv : ∀ i, i < n + 1 → F i < T i) : 0 < k ∧ h 0 = loF F n ∧ h (k - 1) = hiF T n := by
  have hin : ∀ i, i ≤ n → In h k (F i) ∧ In h k (T i) := fun i hi => ⟨(hD.mem _).2 ⟨2 * i, by omega, enF_0 F T i⟩, (hD.mem _).2 ⟨2 * i + 1, by omega, enF_1 F T i⟩⟩
  have hmn : ∀ i, i < k → ∃ j, j ≤ n ∧ (h i = F j ∨ h i = T j) := fun i hi => by
    obtain ⟨j, hj, e⟩ := (hD.mem (h i)).1 ⟨i, hi, rfl⟩
    by_cases e2 : j % 2 = 0
    · refine ⟨j / 2, by omega, .inl ?_⟩
      rw [← e]; unfold enF; rw [if_pos e2]
    · refine ⟨j / 2, by omega, .inr ?_⟩
      rw [← e]; unfold enF; rw [if_neg e2]
  obtain ⟨a, ha, _⟩ := (hin 0 (by omega)).1
  have hk : 0 < k := by omega
  have hup : ∀ i, i < k → h 0 ≤ h i ∧ h i ≤ h (k - 1) := fun i hi => by
    constructor
    · by_cases e : i = 0
      · rw [e]; exact Int.le_refl _
      · exact Int.le_of_lt (hD.up 0 i (by omega) hi)
    · by_cases e : i = k - 1
      · rw [e]; exact Int.le_refl _
      · exact Int.le_of_lt (hD.up i (k - 1) (by omega) (by omega))
  refine ⟨hk, ?_, ?_⟩
  · obtain ⟨i, hi, e⟩ := loF_in (f := F) n
    obtain ⟨p, hp, ep⟩ := (hin i hi).1
    have q1 := (hup p hp).1
    obtain ⟨j, hj, ej⟩ := hmn 0 hk
    have q2 := loF_le (f := F) hj
    have q3 := hv j (by omega)
    rcases ej with ej | ej <;> omega
  · obtain ⟨i, hi, e⟩ := hiF_in (f := T) n
    obtain ⟨p, hp, ep⟩ := (hin i hi).2
    have q1 := (hup p hp).2
    obtain ⟨j, hj, ej⟩ := hmn (k - 1) (by omega)
    have q2 := le_hiF (f := T) hj
    have q3 := hv j (by omega)
    rcases ej with ej | ej <;> omega
theorem iSpan_zero (a : Option Addr) (c : Nat) (w : World) :
    Calls Try.prog 26 #[.slice a 0 c] w fun e w' => e = .returned (.tuple #[.agg #[.int .i64 0, .int .i64 0], .bool false]) ∧ Below w.heap.size w w' := by
  have HB1 := hid ((Below.refl w.heap.size w).alloc (Nat.le_refl _) (.cells #[.int .i64 0, .int .i64 0] 38))
  have hs1 : w.heap.size < (w.alloc (.cells #[.int .i64 0, .int .i64 0] 38)).heap.size := by simp
  have HRR := hid (heap_alloc_new w (.cells #[.int .i64 0, .int .i64 0] 38))
  have HS := AllLt.start w; go_enter Try.func26, Try.ntmps26
  go_wp2_with fail
  (with_reducible refine (plan_zero _ _ _).mono ?_)
  generalize hw0 : w.alloc (.cells #[.int .i64 0, .int .i64 0] 38) = w0 at *
  rintro e w2 ⟨rfl, hb⟩
  have HB := hid ((HB1.out.trans (hb.mono HB1.out.size)).alloc (Nat.le_trans HB1.out.size hb.size) (.cells #[.slice none 0 0, .slice none 0 0, .nilFunc] 56))
  have hr := (hb.block _ hs1).trans HRR.out
  rw [← Below.heap_alloc w2 (.cells #[.slice none 0 0, .slice none 0 0, .nilFunc] 56) _ (Nat.lt_of_lt_of_le hs1 hb.size)] at hr
  have d0 : (w2.alloc (.cells #[.slice none 0 0, .slice none 0 0, .nilFunc] 56)).cell? ⟨w.heap.size, 0, none⟩ = some (.int .i64 0) := by rw [cell_of_row _ _ _ _ _ _ hr]; rfl
  have d1 : (w2.alloc (.cells #[.slice none 0 0, .slice none 0 0, .nilFunc] 56)).cell? ⟨w.heap.size, 1, none⟩ = some (.int .i64 0) := by rw [cell_of_row _ _ _ _ _ _ hr]; rfl
  have e0 : (w2.alloc (.cells #[.slice none 0 0, .slice none 0 0, .nilFunc] 56)).frozen? ⟨w.heap.size, 0, none⟩ = false := frozen_of_row _ _ 0 _ _ hr
  have e1 : (w2.alloc (.cells #[.slice none 0 0, .slice none 0 0, .nilFunc] 56)).frozen? ⟨w.heap.size, 1, none⟩ = false := frozen_of_row _ _ 1 _ _ hr
  clear hb hr hw0 hs1 HB1 HRR HS
  go_wp2_with fail
  refine bodyPost_ret (by simp [results, Try.results26, go_sem, *]; try rfl) rfl ?_
  exact ⟨rfl, (HB.out.setCell (p := ⟨w.heap.size, 0, none⟩) (Nat.le_refl _) _).setCell (p := ⟨w.heap.size, 1, none⟩) (Nat.le_refl _) _⟩
theorem iSpan_off (b cap n : Nat) (F T : Nat → Int) (w : World) (hn : n ≤ 4611686018427387904) (h1 : n ≤ cap) (hR : Rv w b n F T) (h : plV n F T = false) :
    Calls Try.prog 26 #[.slice (some ⟨b, 0, none⟩) n cap] w fun e w' => e = .returned (.tuple #[.agg #[.int .i64 0, .int .i64 0], .bool false]) ∧ Below w.heap.size w w' := by
  have HB1 := hid ((Below.refl w.heap.size w).alloc (Nat.le_refl _) (.cells #[.int .i64 0, .int .i64 0] 38))
  have HI := hid (plan_off b cap n F T _ hn h1 (hR.below HB1.out) h)
  clear hR h
  have hs1 : w.heap.size < (w.alloc (.cells #[.int .i64 0, .int .i64 0] 38)).heap.size := by simp
  have HRR := hid (heap_alloc_new w (.cells #[.int .i64 0, .int .i64 0] 38))
  have HS := AllLt.start w; go_enter Try.func26, Try.ntmps26
  go_wp2_with fail
  (with_reducible refine HI.out.mono ?_)
  clear HI
  generalize hw0 : w.alloc (.cells #[.int .i64 0, .int .i64 0] 38) = w0 at *
  rintro e w2 ⟨rfl, hb⟩
  have HB := hid ((HB1.out.trans (hb.mono HB1.out.size)).alloc (Nat.le_trans HB1.out.size hb.size) (.cells #[.slice none 0 0, .slice none 0 0, .nilFunc] 56))
  have hr := (hb.block _ hs1).trans HRR.out
  rw [← Below.heap_alloc w2 (.cells #[.slice none 0 0, .slice none 0 0, .nilFunc] 56) _ (Nat.lt_of_lt_of_le hs1 hb.size)] at hr
  have d0 : (w2.alloc (.cells #[.slice none 0 0, .slice none 0 0, .nilFunc] 56)).cell? ⟨w.heap.size, 0, none⟩ = some (.int .i64 0) := by rw [cell_of_row _ _ _ _ _ _ hr]; rfl
  have d1 : (w2.alloc (.cells #[.slice none 0 0, .slice none 0 0, .nilFunc] 56)).cell? ⟨w.heap.size, 1, none⟩ = some (.int .i64 0) := by rw [cell_of_row _ _ _ _ _ _ hr]; rfl
  have e0 : (w2.alloc (.cells #[.slice none 0 0, .slice none 0 0, .nilFunc] 56)).frozen? ⟨w.heap.size, 0, none⟩ = false := frozen_of_row _ _ 0 _ _ hr
  have e1 : (w2.alloc (.cells #[.slice none 0 0, .slice none 0 0, .nilFunc] 56)).frozen? ⟨w.heap.size, 1, none⟩ = false := frozen_of_row _ _ 1 _ _ hr
  clear hb hr hw0 hs1 HB1 HRR HS
  go_wp2_with fail
  refine bodyPost_ret (by simp [results, Try.results26, go_sem, *]; try rfl) rfl ?_
  exact ⟨rfl, (HB.out.setCell (p := ⟨w.heap.size, 0, none⟩) (Nat.le_refl _) _).setCell (p := ⟨w.heap.size, 1, none⟩) (Nat.le_refl _) _⟩
set_option maxHeartbeats 1000000 in
theorem iSpan_on (b cap n : Nat) (F T : Nat → Int) (w : World) (h1 : n + 1 ≤ cap) (hR : Rv w b (n + 1) F T) (h : plV (n + 1) F T = true) :
    Calls Try.prog 26 #[.slice (some ⟨b, 0, none⟩) (n + 1) cap] w fun e w' => e = .returned (.tuple #[.agg #[.int .i64 (loF F n), .int .i64 (hiF T n)], .bool true]) ∧ Below w.heap.size w w' := by
  have h6 := (plV_iff.1 h).1.2
  have hv := hid (show ∀ i, i < n + 1 → F i < T i from fun i hi => by have := (plV_iff.1 h).2 i hi; rw [iv_iff] at this; omega)
  have HB1 := hid ((Below.refl w.heap.size w).alloc (Nat.le_refl _) (.cells #[.int .i64 0, .int .i64 0] 38))
  have HI := hid (plan_on b cap (n + 1) F T _ h1 (hR.below HB1.out) h)
  clear hR h
  have hs1 : w.heap.size < (w.alloc (.cells #[.int .i64 0, .int .i64 0] 38)).heap.size := by simp
  have HRR := hid (heap_alloc_new w (.cells #[.int .i64 0, .int .i64 0] 38))
  have HS := AllLt.start w; go_enter Try.func26, Try.ntmps26
  go_wp2_with fail
  (with_reducible refine HI.out.mono ?_)
  clear HI
  generalize hw0 : w.alloc (.cells #[.int .i64 0, .int .i64 0] 38) = w0 at *
  rintro e w2 ⟨g, cg, q, k, cq, hh, rfl, hD, hq, hS, hb⟩
  obtain ⟨hk, hlo, hhi⟩ := hD.lo hv.out
  have hkn := hD.le
  obtain ⟨O, hO⟩ : ∃ O : Obj, O = (.cells #[.slice (some ⟨g, 0, none⟩) (2 * (n + 1)) cg, .slice (some ⟨q, 0, none⟩) k cq, .func (.func 56) #[] #[]] 56 (0, 0)) := ⟨_, rfl⟩
  have HB := hid ((HB1.out.trans (hb.mono HB1.out.size)).alloc (Nat.le_trans HB1.out.size hb.size) O)
  have hr := (hb.block _ hs1).trans HRR.out
  rw [← Below.heap_alloc w2 O _ (Nat.lt_of_lt_of_le hs1 hb.size)] at hr
  have hS3 := hS.below ((Below.refl w2.heap.size w2).alloc (Nat.le_refl _) O)
  have d0 : (w2.alloc O).cell? ⟨w.heap.size, 0, none⟩ = some (.int .i64 0) := by rw [cell_of_row _ _ _ _ _ _ hr]; rfl
  have d1 : (w2.alloc O).cell? ⟨w.heap.size, 1, none⟩ = some (.int .i64 0) := by rw [cell_of_row _ _ _ _ _ _ hr]; rfl
  have e0 : (w2.alloc O).frozen? ⟨w.heap.size, 0, none⟩ = false := frozen_of_row _ _ 0 _ _ hr
  have e1 : (w2.alloc O).frozen? ⟨w.heap.size, 1, none⟩ = false := frozen_of_row _ _ 1 _ _ hr
  have t1 : (w2.alloc O).cell? ⟨w2.heap.size, 1, none⟩ = some (.slice (some ⟨q, 0, none⟩) k cq) := by subst hO; exact (Tv.made w2 _ _).c.2.1
  have s0 := hS3.c 0 hk
  have s1 := hS3.c (k - 1) (by omega)
  rw [hlo] at s0
  rw [hhi] at s1
  have hd1 : decide (0 < k) = true := decide_eq_true hk
  have hd2 : decide (k - 1 < k) = true := decide_eq_true (by omega)
  have hp0 : (0 : Int) ≤ (k : Int) - 1 := by omega
  have hp1 : (k : Int) - 1 < (k : Int) := by omega
  have hp2 : ¬ ((k : Int) - 1 < 0) := by omega
  have hp3 : decide ((0 : Int) ≤ (k : Int) - 1) = true := decide_eq_true hp0
  have hp4 : decide ((k : Int) - 1 < (k : Int)) = true := decide_eq_true hp1
  have hp5 : decide ((k : Int) - 1 < 0) = false := decide_eq_false hp2
  have hp6 : ((k : Int) - 1).toNat = k - 1 := by omega
  have hp8 : wrap64 ((k : Int) - 1) = (k : Int) - 1 := IntWalk.wrap64_in _ (by omega)
  have hp7 : IntKind.i64.wrap ((k : Int) - 1) = (k : Int) - 1 := IntWalk.i64_in _ (by omega)
  have hp9 : (0 : Int) < (k : Int) := by omega
  rw [hO] at d0 d1 e0 e1 t1 s0 s1 HB
  clear hb hr hw0 hs1 HB1 HRR HS hS hS3 hD hlo hhi hO
  go_wp2_with fail
  generalize w2.alloc (.cells #[.slice (some ⟨g, 0, none⟩) (2 * (n + 1)) cg, .slice (some ⟨q, 0, none⟩) k cq, .func (.func 56) #[] #[]] 56) = w3 at *
  have HBB := HB.out
  clear HB
  go_region
  all_goals
    go_wp2_with fail
    refine bodyPost_ret (by simp [results, Try.results26, go_sem, *]; try rfl) rfl ?_
    refine ⟨rfl, ?_⟩
    first
      | exact (HBB.setCell (p := ⟨w.heap.size, 0, none⟩) (Nat.le_refl _) _).setCell (p := ⟨w.heap.size, 1, none⟩) (Nat.le_refl _) _
      | exact (HBB.drew.setCell (p := ⟨w.heap.size, 0, none⟩) (Nat.le_refl _) _).setCell (p := ⟨w.heap.size, 1, none⟩) (Nat.le_refl _) _
      | go_grown
end Go.Proofs.Ytnogdjmciekieaa.C
