/- The free network: the model's table, and the exact law. -/
import Derived.Test.YtholffjadnaloaaDoorNetL
import Derived.Deep.AppendLies
namespace Go.Proofs.YtholffjadnaloaaDoor.C
open Go.RowKit
set_option linter.unusedVariables false
set_option linter.unusedSimpArgs false
/-- a row of relations, as cells -/
def rowL (L : Nat → Nat) (m : Nat) : List Value := (List.range m).map fun x => .int .i64 ((L x : Nat) : Int)
theorem rowL_succ (L : Nat → Nat) (m : Nat) : rowL L m ++ [.int .i64 ((L m : Nat) : Int)] = rowL L (m + 1) := by simp [rowL, List.range_succ]
theorem own_rowL {w : World} {b T m m' : Nat} {v : Value} {L : Nat → Nat} (h : w.ownsRow b T 1 v m (rowL L m)) (e : m = m') : w.ownsRow b T 1 v m' (rowL L m') := by rw [← e]; exact h
theorem netInt : (Tryd.prog.info? 3).map (fun i => (i.zero, i.size, i.bytes)) = some (some (.int .i64 0), 1, 8) := by kernel_rfl
/-- A table of relations in a block of its own. -/
def Tk (w : World) (g : Nat) (z : Int) (v : Value) : Prop := w.heap[g]? = some (.cells #[.int .i64 z, v] 61 (0, 0))
section
variable {w w' : World} {g : Nat} {z : Int} {v : Value}
theorem Tk.lt (h : Tk w g z v) : g < w.heap.size := (Array.getElem?_eq_some_iff.1 h).1
theorem Tk.made (w : World) (z : Int) (v : Value) : Tk (w.alloc (.cells #[.int .i64 z, v] 61)) w.heap.size z v := heap_alloc_new w _
theorem Tk.alloc (h : Tk w g z v) (o : Obj) : Tk (w.alloc o) g z v := (Below.heap_alloc w o g h.lt).trans h
theorem Tk.below {B : Nat} (h : Tk w g z v) (hb : Below B w w') (hg : g < B) : Tk w' g z v := (hb.block g hg).trans h
theorem Tk.c0 (h : Tk w g z v) : w.cell? ⟨g, 0, none⟩ = some (.int .i64 z) := by rw [cell_of_row w g _ _ _ _ h]; rfl
theorem Tk.c1 (h : Tk w g z v) : w.cell? ⟨g, 1, none⟩ = some v := by rw [cell_of_row w g _ _ _ _ h]; rfl
theorem Tk.fr (h : Tk w g z v) (j : Nat) : w.frozen? ⟨g, j, none⟩ = false := frozen_of_row w g j _ _ h
theorem Tk.set1 (h : Tk w g z v) (u : Value) : Tk (w.setCell ⟨g, 1, none⟩ u) g z u := by
  unfold Tk
  rw [heap_setCell_same w g _ _ _ _ h]; rfl
theorem Tk.far (h : Tk w g z v) {p : Addr} (hp : g ≠ p.block) (u : Value) : Tk (w.setCell p u) g z v := (heap_setCell_other w p g u hp).trans h
end
theorem own_set {w : World} {b e size n : Nat} {v : Value} {xs : List Value} (h : w.ownsRow b e size v n xs) {p : Addr} (hp : p.block < b) (u : Value) : (w.setCell p u).ownsRow b e size v n xs := by
  obtain ⟨h1, h2⟩ := h
  refine ⟨h1, h2.imp id ?_⟩
  rintro ⟨g, cap, cur, hv, hB, hg, r⟩
  exact ⟨g, cap, cur, hv, hB, (heap_setCell_other w p g u (by omega)).trans hg, r⟩
set_option maxHeartbeats 4000000 in
set_option maxRecDepth 100000 in
theorem l5Free_own (n : Nat) (h6 : n ≤ 6) (w : World) :
    Calls Tryd.prog 174 #[.int .i64 n] w fun e w' => (∃ v, e = .returned (.agg #[.int .i64 n, v]) ∧ w'.ownsRow (w.heap.size + 1 + 1) 3 1 v (n * n) (rowL (fun x => freR n (x / n) (x % n)) (n * n))) ∧ Below w.heap.size w w' := by
  obtain ⟨i0, hi0, hz0, hz1, hz2⟩ := info_parts netInt
  have HS := AllLt.start w; go_enter Tryd.func174, Tryd.ntmps174
  go_wp2_with fail
  go_loopw [4] (fun a wr => ∃ i : Nat, i ≤ n ∧ a = .int .i64 i ∧ ∃ u, Hid (Tk wr (w.heap.size + 1) n u) ∧ Hid (wr.ownsRow (w.heap.size + 1 + 1) 3 1 u (i * n + 0) (rowL (fun x => freR n (x / n) (x % n)) (i * n + 0))) ∧ Hid (Tk wr w.heap.size 0 (.slice none 0 0)) ∧ Hid (Below w.heap.size w wr) ∧ Hid (w.heap.size + 1 + 1 ≤ wr.heap.size)) (fun a _ => n - (intOf a).toNat)
  case atStart =>
    refine ⟨0, by omega, rfl, .slice none 0 0, ?_, ?_, ?_, ?_, ?_⟩
    · have h := Tk.made (w.alloc (.cells #[.int .i64 0, .slice none 0 0] 61)) n (.slice none 0 0)
      rw [World.size_alloc] at h
      exact hid h
    · rw [show 0 * n + 0 = 0 by omega]
      exact hid (World.ownsRow_nil _ _ _ _)
    · exact hid ((Tk.made w 0 (.slice none 0 0)).alloc _)
    · exact hid (((Below.refl _ _).alloc (Nat.le_refl _) _).alloc (by simp) _)
    · exact hid (by rw [World.size_alloc, World.size_alloc]; omega)
  case round =>
    obtain ⟨i, hi, rfl, u, HT, HO, HR, HB, HZ⟩ := hrel
    clear HS
    by_cases hin : i < n
    · have hdi : decide ((i : Int) < (n : Int)) = true := by simp; omega
      go_wp2_with fail
      go_loopw [5] (fun a wr => ∃ k : Nat, k ≤ n ∧ a = .int .i64 k ∧ ∃ u, Hid (Tk wr (w.heap.size + 1) n u) ∧ Hid (wr.ownsRow (w.heap.size + 1 + 1) 3 1 u (i * n + k) (rowL (fun x => freR n (x / n) (x % n)) (i * n + k))) ∧ Hid (Tk wr w.heap.size 0 (.slice none 0 0)) ∧ Hid (Below w.heap.size w wr) ∧ Hid (w.heap.size + 1 + 1 ≤ wr.heap.size)) (fun a _ => n - (intOf a).toNat)
      case atStart => exact ⟨0, by omega, rfl, u, HT, HO, HR, HB, HZ⟩
      case round =>
        obtain ⟨k, hk, rfl, u2, HT2, HO2, HR2, HB2, HZ2⟩ := hrel
        obtain ⟨wi, rfl⟩ : ∃ wi : World, wi = wr := ⟨_, rfl⟩
        by_cases hkn : k < n
        · have hdk : decide ((k : Int) < (n : Int)) = true := by simp; omega
          have h36 : i * n + k < 36 := by
            have h1 := at_lt hin hkn
            have h2 : n * n ≤ 36 := Nat.mul_le_mul h6 h6
            omega
          have hc1 := HT2.out.c1
          have hAT := at_div (i := i) hkn
          by_cases hik : i = k
          all_goals
            have HV := hid hik
            have HL := hid (show freR n ((i * n + k) / n) ((i * n + k) % n) = (if i = k then 64 else 8191) by
              rw [hAT.1, hAT.2]
              by_cases e : i = k
              · rw [if_pos e, ← e]; exact freR_one hin
              · rw [if_neg e]; exact freR_all hin hkn e)
          · have hq : ((i : Int) == (k : Int)) = true := by rw [hik]; simp
            have HL2 := hid (show freR n ((i * n + k) / n) ((i * n + k) % n) = 64 by rw [HL.out, if_pos HV.out])
            clear hik hAT HL
            go_wp2_with (at_builtin; refine wpList_append_lies _ rfl _ _ 33 rfl (w.heap.size + 1 + 1) 3 i0 _ 1 8 Tryd.underlying33 hi0 hz0 hz1 hz2 rfl (by decide) _ _ _ rfl (HO2.out.alloc _) ⟨wi.heap.size, 0, none⟩ 1 1 [.int .i64 ((64 : Nat) : Int)] rfl rfl ?c1 ?c2 (by omega) ?c3 ?c4 ?c5 _ rfl ?_)
            case c1 =>
              intro j x hj
              match j, hj with
              | 0, hj => simp at hj; subst hj; simp [Addr.add]
            case c2 => intro x hx; simp at hx; subst hx; rfl
            case c3 => unfold maxLen; omega
            case c4 => omega
            case c5 => have := HZ2.out; simp; omega
            intro g cap w3 hown hgrow _ hlt
            have hne : some (w.heap.size + 1) ≠ u2.ownBlock := fun e => by have := (HO2.out.lt _ e.symm).1; omega
            have hne0 : some w.heap.size ≠ u2.ownBlock := fun e => by have := (HO2.out.lt _ e.symm).1; omega
            have HT3 := hid (show Tk w3 (w.heap.size + 1) n u2 from (hgrow.block _ (by have := HZ2.out; simp; omega) hne).trans (HT2.out.alloc _))
            have HR3 := hid (show Tk w3 w.heap.size 0 (.slice none 0 0) from (hgrow.block _ (by have := HZ2.out; simp; omega) hne0).trans (HR2.out.alloc _))
            have HB3 := hid ((HB2.out.alloc (by have := HZ2.out; omega) _).grown hgrow (by have := HZ2.out; simp; omega) (fun j hj => by have := (HO2.out.lt j hj).1; omega))
            have HO3 := hid (show w3.ownsRow (w.heap.size + 1 + 1) 3 1 (.slice (some ⟨g, 0, none⟩) (i * n + k + 1) cap) (i * n + (k + 1)) (rowL (fun x => freR n (x / n) (x % n)) (i * n + (k + 1))) by
              rw [show i * n + (k + 1) = (i * n + k) + 1 by omega, ← rowL_succ, HL2.out]; exact hown)
            have HZ3 := hid (show w.heap.size + 1 + 1 ≤ w3.heap.size by have := hgrow.size; have := HZ2.out; simp at *; omega)
            clear hown hgrow hne hne0 hc1
            have hc1 := HT3.out.c1
            have hf1 := HT3.out.fr 1
            go_wp2_with fail
            go_roundw
            case rel => exact ⟨k + 1, by omega, by go_num, _, hid (HT3.out.set1 _), hid (own_set HO3.out (p := ⟨w.heap.size + 1, 1, none⟩) (by simp) _), hid (HR3.out.far (p := ⟨w.heap.size + 1, 1, none⟩) (by simp) _), hid (HB3.out.setCell (p := ⟨w.heap.size + 1, 1, none⟩) (by simp) _), hid (by simpa using HZ3.out)⟩
            case measure => simp [intOf]; omega
          · have hq : ((i : Int) == (k : Int)) = false := by rw [beq_eq_false_iff_ne]; omega
            have HL2 := hid (show freR n ((i * n + k) / n) ((i * n + k) % n) = 8191 by rw [HL.out, if_neg HV.out])
            clear hik hAT HL
            go_wp2_with (at_builtin; refine wpList_append_lies _ rfl _ _ 33 rfl (w.heap.size + 1 + 1) 3 i0 _ 1 8 Tryd.underlying33 hi0 hz0 hz1 hz2 rfl (by decide) _ _ _ rfl (HO2.out.alloc _) ⟨wi.heap.size, 0, none⟩ 1 1 [.int .i64 ((8191 : Nat) : Int)] rfl rfl ?c1 ?c2 (by omega) ?c3 ?c4 ?c5 _ rfl ?_)
            case c1 =>
              intro j x hj
              match j, hj with
              | 0, hj => simp at hj; subst hj; simp [Addr.add]
            case c2 => intro x hx; simp at hx; subst hx; rfl
            case c3 => unfold maxLen; omega
            case c4 => omega
            case c5 => have := HZ2.out; simp; omega
            intro g cap w3 hown hgrow _ hlt
            have hne : some (w.heap.size + 1) ≠ u2.ownBlock := fun e => by have := (HO2.out.lt _ e.symm).1; omega
            have hne0 : some w.heap.size ≠ u2.ownBlock := fun e => by have := (HO2.out.lt _ e.symm).1; omega
            have HT3 := hid (show Tk w3 (w.heap.size + 1) n u2 from (hgrow.block _ (by have := HZ2.out; simp; omega) hne).trans (HT2.out.alloc _))
            have HR3 := hid (show Tk w3 w.heap.size 0 (.slice none 0 0) from (hgrow.block _ (by have := HZ2.out; simp; omega) hne0).trans (HR2.out.alloc _))
            have HB3 := hid ((HB2.out.alloc (by have := HZ2.out; omega) _).grown hgrow (by have := HZ2.out; simp; omega) (fun j hj => by have := (HO2.out.lt j hj).1; omega))
            have HO3 := hid (show w3.ownsRow (w.heap.size + 1 + 1) 3 1 (.slice (some ⟨g, 0, none⟩) (i * n + k + 1) cap) (i * n + (k + 1)) (rowL (fun x => freR n (x / n) (x % n)) (i * n + (k + 1))) by
              rw [show i * n + (k + 1) = (i * n + k) + 1 by omega, ← rowL_succ, HL2.out]; exact hown)
            have HZ3 := hid (show w.heap.size + 1 + 1 ≤ w3.heap.size by have := hgrow.size; have := HZ2.out; simp at *; omega)
            clear hown hgrow hne hne0 hc1
            have hc1 := HT3.out.c1
            have hf1 := HT3.out.fr 1
            go_wp2_with fail
            go_roundw
            case rel => exact ⟨k + 1, by omega, by go_num, _, hid (HT3.out.set1 _), hid (own_set HO3.out (p := ⟨w.heap.size + 1, 1, none⟩) (by simp) _), hid (HR3.out.far (p := ⟨w.heap.size + 1, 1, none⟩) (by simp) _), hid (HB3.out.setCell (p := ⟨w.heap.size + 1, 1, none⟩) (by simp) _), hid (by simpa using HZ3.out)⟩
            case measure => simp [intOf]; omega
        · obtain rfl : k = n := by omega
          have hdk : decide ((k : Int) < (k : Int)) = false := by simp
          have HO3 := hid (own_rowL HO2.out (show i * k + k = (i + 1) * k + 0 by rw [Nat.add_mul]; omega))
          go_wp2_with fail
          go_roundw
          case rel => exact ⟨i + 1, by omega, by go_num, u2, HT2, HO3, HR2, HB2, HZ2⟩
          case measure => simp [intOf]; omega
    · obtain rfl : i = n := by omega
      have hdi : decide ((i : Int) < (i : Int)) = false := by simp
      have t0 := HT.out.c0
      have t1 := HT.out.c1
      have r0 := HR.out.c0
      have r1 := HR.out.c1
      have rf0 := HR.out.fr 0
      have rf1 := HR.out.fr 1
      have HQ := hid (own_set (own_set HO.out (p := ⟨w.heap.size, 0, none⟩) (by simp; omega) (.int .i64 (i : Int))) (p := ⟨w.heap.size, 1, none⟩) (by simp; omega) u)
      obtain ⟨ao, n', cap, rfl⟩ : ∃ ao n' cap, u = .slice ao n' cap := by
        rcases HO.out.2 with ⟨hv, _⟩ | ⟨g, cap, cur, hv, _⟩
        · exact ⟨_, _, _, hv⟩
        · exact ⟨_, _, _, hv⟩
      go_wp2_with fail
      refine bodyPost_ret (by simp [results, Tryd.results174, go_sem, *]; try rfl) rfl ?_
      exact ⟨⟨_, rfl, HQ.out⟩, (HB.out.setCell (p := ⟨w.heap.size, 0, none⟩) (by simp) _).setCell (p := ⟨w.heap.size, 1, none⟩) (by simp) _⟩
theorem l5Free_any (n : Nat) (h6 : n ≤ 6) (w : World) :
    Calls Tryd.prog 174 #[.int .i64 n] w fun e w' => (∃ v, e = .returned (.agg #[.int .i64 n, v]) ∧ Ts w' w'.heap.size v (n * n) (fun x => freR n (x / n) (x % n))) ∧ Below w.heap.size w w' :=
  (l5Free_own n h6 w).mono fun e w' ⟨⟨v, h1, h2⟩, hb⟩ => ⟨⟨v, h1, Ts.of_own h2⟩, hb⟩
set_option maxHeartbeats 1000000 in
theorem iFreeNet_off (z : Int) (hz : ¬ (1 ≤ z ∧ z ≤ 6)) (w : World) :
    Calls Tryd.prog 33 #[.int .i64 z] w fun e w' => e = .returned (.tuple #[.agg #[.int .i64 0, .string ⟨#[]⟩], .bool false]) ∧ Below w.heap.size w w' := by
  have HK := hid (Nk.made w 0 ⟨#[]⟩)
  have HF := hid (free_off z hz)
  clear hz
  have HS := AllLt.start w; go_enter Tryd.func33, Tryd.ntmps33
  go_wp2_with fail
  (with_reducible refine (HF.out _).mono ?_)
  rintro e w1 ⟨rfl, hb⟩
  have HB0 := hid (below_setRow ((((Below.refl w.heap.size w).alloc (Nat.le_refl _) (.cells #[.int .i64 0, .string ⟨#[]⟩] 26)).trans (hb.mono (by simp))).alloc (by have := hb.size; simp at this; omega) (.cells (netV 0 fun _ _ => 0) 70)) (show w.heap.size ≤ w1.heap.size by have := hb.size; simp at this; omega) (netV 0 fun _ _ => 0))
  have HK1 := hid (HK.out.below hb (by simp))
  have HK2 := hid (show Nk ((w1.alloc (.cells (netV 0 fun _ _ => 0) 70)).setRow w1.heap.size (netV 0 fun _ _ => 0)) w.heap.size 0 ⟨#[]⟩ from by
    unfold Nk World.setRow
    rw [Array.getElem?_modify, if_neg (by have := hb.size; simp at this; omega)]
    exact (Below.heap_alloc w1 _ _ HK1.out.lt).trans HK1.out)
  clear hb
  go_upto_region 2 with (first | refine al_net rfl rfl ?_ | refine st_net rfl _ _ rfl rfl rfl (NB.made w1 0 fun _ _ => 0) ?_)
  generalize (w1.alloc (.cells (netV 0 fun _ _ => 0) 70)).setRow w1.heap.size (netV 0 fun _ _ => 0) = w2 at *
  have r0 := HK2.out.c0
  have r1 := HK2.out.c1
  have rf0 := HK2.out.fr 0
  have rf1 := HK2.out.fr 1
  go_wp2_with fail
  refine bodyPost_ret (by simp [results, Tryd.results33, go_sem, *]; try rfl) rfl ?_
  exact ⟨rfl, (HB0.out.setCell (p := ⟨w.heap.size, 0, none⟩) (by simp) _).setCell (p := ⟨w.heap.size, 1, none⟩) (by simp) _⟩
set_option maxHeartbeats 1000000 in
theorem iFreeNet_on (n : Nat) (h1 : 1 ≤ n) (h6 : n ≤ 6) (w : World) :
    Calls Tryd.prog 33 #[.int .i64 n] w fun e w' => e = .returned (.tuple #[.agg #[.int .i64 n, .string (netS n (freR n))], .bool true]) ∧ Below w.heap.size w w' := by
  have HK := hid (Nk.made w 0 ⟨#[]⟩)
  have HF := hid (free_on n h1 h6)
  have HT := hid (net_any n h6 (freR n) (freR_ok h1 h6).lt)
  have HS := AllLt.start w; go_enter Tryd.func33, Tryd.ntmps33
  go_wp2_with fail
  (with_reducible refine (HF.out _).mono ?_)
  rintro e w1 ⟨rfl, hb⟩
  have HB0 := hid (below_setRow ((((Below.refl w.heap.size w).alloc (Nat.le_refl _) (.cells #[.int .i64 0, .string ⟨#[]⟩] 26)).trans (hb.mono (by simp))).alloc (by have := hb.size; simp at this; omega) (.cells (netV 0 fun _ _ => 0) 70)) (show w.heap.size ≤ w1.heap.size by have := hb.size; simp at this; omega) (netV n (freR n)))
  have HK1 := hid (HK.out.below hb (by simp))
  have HK2 := hid (show Nk ((w1.alloc (.cells (netV 0 fun _ _ => 0) 70)).setRow w1.heap.size (netV n (freR n))) w.heap.size 0 ⟨#[]⟩ from by
    unfold Nk World.setRow
    rw [Array.getElem?_modify, if_neg (by have := hb.size; simp at this; omega)]
    exact (Below.heap_alloc w1 _ _ HK1.out.lt).trans HK1.out)
  have HN2 := hid ((NB.made w1 0 fun _ _ => 0).row n (freR n))
  clear hb
  go_upto_region 2 with (first | refine al_net rfl rfl ?_ | refine st_net rfl _ _ rfl rfl rfl (NB.made w1 0 fun _ _ => 0) ?_)
  generalize (w1.alloc (.cells (netV 0 fun _ _ => 0) 70)).setRow w1.heap.size (netV n (freR n)) = w2 at *
  go_wp2_with (refine ld_net rfl _ rfl rfl HN2.out ?_)
  (with_reducible refine (HT.out _).mono ?_)
  rintro e w3 ⟨rfl, hb⟩
  have hk := HK2.out.below hb HK2.out.lt
  have HB3 := hid (HB0.out.trans (hb.mono HB0.out.size))
  have r0 := hk.c0
  have r1 := hk.c1
  have rf0 := hk.fr 0
  have rf1 := hk.fr 1
  clear hk hb
  go_wp2_with fail
  refine bodyPost_ret (by simp [results, Tryd.results33, go_sem, *]; try rfl) rfl ?_
  exact ⟨rfl, (HB3.out.setCell (p := ⟨w.heap.size, 0, none⟩) (by simp) _).setCell (p := ⟨w.heap.size, 1, none⟩) (by simp) _⟩
theorem eqNet_same (z : Int) (s : ByteArray) (w : World) :
    Calls Tryd.prog 18 #[.agg #[.int .i64 z, .string s], .agg #[.int .i64 z, .string s]] w fun e w' => e = .returned (.bool true) ∧ Below w.heap.size w w' := by
  have HS := AllLt.start w; go_enter Tryd.func18, Tryd.ntmps18
  go_wp2
  go_ret
  exact ⟨rfl, by (repeat' (first | (with_reducible exact Below.refl _ _) | (with_reducible refine Below.setCell ?_ ?_ _) | (with_reducible refine below_drewN' ?_ _) | (with_reducible refine below_drew' ?_) | (with_reducible refine Below.alloc ?_ ?_ _) | (with_reducible assumption) | go_size))⟩
end Go.Proofs.YtholffjadnaloaaDoor.C
