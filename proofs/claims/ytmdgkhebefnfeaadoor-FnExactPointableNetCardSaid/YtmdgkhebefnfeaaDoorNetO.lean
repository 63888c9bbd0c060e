/- The model's table of relations of a network, closed to a text. The free network: the model's table, and the exact law. The model's table of a network, opened from its text. -/
import Derived.Test.YtmdgkhebefnfeaaDoorNetN
import Derived.Test.YtmdgkhebefnfeaaDoorNetS
import Derived.Deep.RegionHeld3
import Derived.Deep.DeepCutAuto
import Derived.Laws.AppendOwn
import Derived.OwnWalk
import Derived.Deep.AppendLies
import Derived.Deep.RegionLaw
namespace Go.Proofs.YtmdgkhebefnfeaaDoor.C
section
open Go.RowKit
set_option linter.unusedVariables false
set_option linter.unusedSimpArgs false
/-- the text of the first m relations of a row -/
def catB (L : Nat → Nat) (m : Nat) : ByteArray := ⟨(catD ((List.range m).map L)).toArray⟩
theorem catB_0 (L : Nat → Nat) : catB L 0 = ⟨#[]⟩ := rfl
theorem catB_succ (L : Nat → Nat) (m : Nat) : catB L m ++ dig (L m) = catB L (m + 1) := by
  apply ByteArray.ext
  rw [ByteArray.data_append]
  apply Array.ext'
  rw [Array.toList_append]
  simp only [catB, List.range_succ, List.map_append, List.map_cons, List.map_nil, catD_snoc]
  rfl
theorem catB_size (L : Nat → Nat) (m : Nat) : (catB L m).size = 4 * m := by
  show (catD ((List.range m).map L)).toArray.size = _
  rw [List.size_toArray, catD_len]; simp
theorem catB_net (n : Nat) (R : Nat → Nat → Nat) : catB (fun x => R (x / n) (x % n)) (n * n) = netS n R := rfl
theorem ret_net2 {a : Int} {b c : ByteArray} {d : Bool} (h : b = c) : Ending.returned (.tuple #[.agg #[.int .i64 a, .string b], .bool d]) = .returned (.tuple #[.agg #[.int .i64 a, .string c], .bool d]) := by rw [h]
/-- A slice of m relations, wherever it lies below a bound. -/
def Ts (w : World) (B : Nat) (v : Value) (m : Nat) (L : Nat → Nat) : Prop :=
  ∃ a cap, v = .slice a m cap ∧ ∀ j, j < m → ∃ g, a = some ⟨g, 0, none⟩ ∧ g < B ∧ w.cell? ⟨g, j, none⟩ = some (.int .i64 ((L j : Nat) : Int))
theorem Ts.of_own {w : World} {v : Value} {L : Nat → Nat} {m base : Nat} {T : TypeId} (h : w.ownsRow base T 1 v m ((List.range m).map fun x => .int .i64 ((L x : Nat) : Int))) : Ts w w.heap.size v m L := by
  have h0 := h
  rcases h.2 with ⟨rfl, hn⟩ | ⟨g, cap, cur, rfl, hB, hg, h1, h2, h3, h4⟩
  · exact ⟨none, 0, by rw [hn], fun i hi => by omega⟩
  · refine ⟨_, cap, rfl, fun i hi => ⟨g, rfl, (Array.getElem?_eq_some_iff.1 hg).1, ?_⟩⟩
    have ha : ∀ j, (⟨g, 0, none⟩ : Addr).add j = ⟨g, j, none⟩ := fun j => by unfold Addr.add; split <;> simp_all
    have c1 := h0.cells (g := g) rfl i (.int .i64 ((L i : Nat) : Int)) (by simp [hi])
    rw [ha] at c1
    exact c1
set_option maxHeartbeats 4000000 in
set_option maxRecDepth 100000 in
theorem l5Close_any (z : Int) (v : Value) (m : Nat) (hm : m ≤ 36) (L : Nat → Nat) (hL : ∀ j, j < m → L j < 8192) (w : World) (hv : Ts w w.heap.size v m L) :
    Calls Tryd.prog 79 #[.agg #[.int .i64 z, v]] w fun e w' => e = .returned (.agg #[.int .i64 z, .string (catB L m)]) ∧ Below w.heap.size w w' := by
  obtain ⟨a, cap, rfl, hE⟩ := hv
  have HE := hid hE
  have HL := hid hL
  clear hE hL
  have HS := AllLt.start w; go_enter Tryd.func79, Tryd.ntmps79
  go_wp2_with fail
  go_loopw [4] (fun v wr => ∃ j : Nat, j ≤ m ∧ v = .int .i64 j ∧ Hid (Nk wr (w.heap.size + 1 + 1) z (catB L j)) ∧ Hid (Below (w.heap.size + 1 + 1) ((w.alloc (.cells #[.int .i64 z, .slice a m cap] 80)).alloc (.cells #[.int .i64 0, .string ⟨#[]⟩] 44)) wr)) (fun v _ => m - (intOf v).toNat)
  case atStart => exact ⟨0, by omega, rfl, hid (by have h := Nk.made ((w.alloc (.cells #[.int .i64 z, .slice a m cap] 80)).alloc (.cells #[.int .i64 0, .string ⟨#[]⟩] 44)) z (catB L 0); rw [World.size_alloc, World.size_alloc] at h; exact h), hid ((Below.refl _ _).alloc (by simp) _)⟩
  case round =>
    obtain ⟨j, hj, rfl, HN, HB⟩ := hrel
    clear HS
    have lt0 : w.heap.size < w.heap.size + 1 + 1 := by omega
    have lt1 : w.heap.size + 1 < w.heap.size + 1 + 1 := by omega
    have q0 : wr.cell? ⟨w.heap.size, 1, none⟩ = some (.slice a m cap) := by rw [HB.out.cell (p := ⟨w.heap.size, 1, none⟩) lt0]; simp [go_sem]
    have HR := hid (Nk.below (g := w.heap.size + 1) (z := 0) (s := ⟨#[]⟩) (by have h := Nk.made (w.alloc (.cells #[.int .i64 z, .slice a m cap] 80)) 0 ⟨#[]⟩; rw [World.size_alloc] at h; exact h) HB.out lt1)
    have HBw := hid (((((Below.refl w.heap.size w).alloc (Nat.le_refl _) (.cells #[.int .i64 z, .slice a m cap] 80)).alloc (by simp) (.cells #[.int .i64 0, .string ⟨#[]⟩] 44))).trans (HB.out.mono (by omega)))
    have n0 := HN.out.c0
    have n1 := HN.out.c1
    by_cases hjm : j < m
    · have hdj : decide ((j : Int) < (m : Int)) = true := by simp; omega
      have hdk : decide (j < m) = true := by simp; omega
      obtain ⟨g, rfl, hg, hc⟩ := HE.out j hjm
      have hg2 : g < w.heap.size + 1 + 1 := by omega
      have hq : wr.cell? ⟨g, j, none⟩ = some (.int .i64 ((L j : Nat) : Int)) := by
        rw [HB.out.cell (p := ⟨g, j, none⟩) hg2]
        exact ((((Below.refl w.heap.size w).alloc (Nat.le_refl _) _).alloc (by simp) _).cell (p := ⟨g, j, none⟩) hg).trans hc
      have hr8 := HL.out j hjm
      have fr := HN.out.fr 1
      have HD := hid (l5Digits_any (L j) (by omega))
      have ha : ((catB L j).size : Int) ≤ 8388608 := by rw [catB_size]; omega
      have hb : ((dig (L j)).size : Int) ≤ 8388608 := by rw [dig_size]; omega
      have hrun : ∀ w : World, (Op.stringOp .add (catB L j) (dig (L j))).run Tryd.prog w = .ok (.string (catB L j ++ dig (L j))) w := fun w => run_string_add_sum (P := Tryd.prog) (w := w) _ _ (by omega)
      go_wp2_with fail
      go_region_with (first | (go_at_call 116; (with_reducible refine (HD.out _).mono ?_); rintro e w' ⟨rfl, rfl⟩) | fail)
      all_goals
        go_wp2_with fail
        trace_state
        go_roundw
        case rel => exact ⟨j + 1, by omega, by go_num, hid (by rw [← catB_succ]; exact (show Nk wr.drew _ _ _ from HN.out).set1 _), hid (HB.out.drew.setCell (p := ⟨w.heap.size + 1 + 1, 1, none⟩) (Nat.le_refl _) _)⟩
        case measure => simp [intOf]; omega
    · obtain rfl : j = m := by omega
      have hdj : decide ((j : Int) < (j : Int)) = false := by simp
      have r0 := HR.out.c0
      have r1 := HR.out.c1
      have rf0 := HR.out.fr 0
      have rf1 := HR.out.fr 1
      go_wp2_with fail
      refine bodyPost_ret (by simp [results, Tryd.results79, go_sem, *]; try rfl) rfl ?_
      exact ⟨rfl, (HBw.out.setCell (p := ⟨w.heap.size + 1, 0, none⟩) (by simp) _).setCell (p := ⟨w.heap.size + 1, 1, none⟩) (by simp) _⟩
end
section
open Go.RowKit
set_option linter.unusedVariables false
set_option linter.unusedSimpArgs false
/-- a row of relations, as cells -/
def rowL (L : Nat → Nat) (m : Nat) : List Value := (List.range m).map fun x => .int .i64 ((L x : Nat) : Int)
theorem rowL_succ (L : Nat → Nat) (m : Nat) : rowL L m ++ [.int .i64 ((L m : Nat) : Int)] = rowL L (m + 1) := by simp [rowL, List.range_succ]
theorem own_rowL {w : World} {b T m m' : Nat} {v : Value} {L : Nat → Nat} (h : w.ownsRow b T 1 v m (rowL L m)) (e : m = m') : w.ownsRow b T 1 v m' (rowL L m') := by rw [← e]; exact h
theorem netInt : (Tryd.prog.info? 3).map (fun i => (i.zero, i.size, i.bytes)) = some (some (.int .i64 0), 1, 8) := by kernel_rfl
/-- A table of relations in a block of its own. -/
def Tk (w : World) (g : Nat) (z : Int) (v : Value) : Prop := w.heap[g]? = some (.cells #[.int .i64 z, v] 80 (0, 0))
section
variable {w w' : World} {g : Nat} {z : Int} {v : Value}
theorem Tk.lt (h : Tk w g z v) : g < w.heap.size := (Array.getElem?_eq_some_iff.1 h).1
theorem Tk.made (w : World) (z : Int) (v : Value) : Tk (w.alloc (.cells #[.int .i64 z, v] 80)) w.heap.size z v := heap_alloc_new w _
theorem Tk.alloc (h : Tk w g z v) (o : Obj) : Tk (w.alloc o) g z v := (Below.heap_alloc w o g h.lt).trans h
theorem Tk.below {B : Nat} (h : Tk w g z v) (hb : Below B w w') (hg : g < B) : Tk w' g z v := (hb.block g hg).trans h
theorem Tk.c0 (h : Tk w g z v) : w.cell? ⟨g, 0, none⟩ = some (.int .i64 z) := by rw [cell_of_row w g _ _ _ _ h]; rfl
theorem Tk.c1 (h : Tk w g z v) : w.cell? ⟨g, 1, none⟩ = some v := by rw [cell_of_row w g _ _ _ _ h]; rfl
theorem Tk.fr (h : Tk w g z v) (j : Nat) : w.frozen? ⟨g, j, none⟩ = false := frozen_of_row w g j _ _ h
theorem Tk.set1 (h : Tk w g z v) (u : Value) : Tk (w.setCell ⟨g, 1, none⟩ u) g z u := by
  unfold Tk
  rw [heap_setCell_same w g _ _ _ _ h]; rfl
theorem Tk.far (h : Tk w g z v) {p : Addr} (hp : g ≠ p.block) (u : Value) : Tk (w.setCell p u) g z v := (heap_setCell_other w p g u hp).trans h
end
theorem own_set {w : World} {b e size n : Nat} {v : Value} {xs : List Value} (h : w.ownsRow b e size v n xs) {p : Addr} (hp : p.block < b) (u : Value) : (w.setCell p u).ownsRow b e size v n xs := by
  obtain ⟨h1, h2⟩ := h
  refine ⟨h1, h2.imp id ?_⟩
  rintro ⟨g, cap, cur, hv, hB, hg, r⟩
  exact ⟨g, cap, cur, hv, hB, (heap_setCell_other w p g u (by omega)).trans hg, r⟩
set_option maxHeartbeats 4000000 in
set_option maxRecDepth 100000 in
theorem l5Free_own (n : Nat) (h6 : n ≤ 6) (w : World) :
    Calls Tryd.prog 76 #[.int .i64 n] w fun e w' => (∃ v, e = .returned (.agg #[.int .i64 n, v]) ∧ w'.ownsRow (w.heap.size + 1 + 1) 3 1 v (n * n) (rowL (fun x => freR n (x / n) (x % n)) (n * n))) ∧ Below w.heap.size w w' := by
  obtain ⟨i0, hi0, hz0, hz1, hz2⟩ := info_parts netInt
  have HS := AllLt.start w; go_enter Tryd.func76, Tryd.ntmps76
  go_wp2_with fail
  go_loopw [4] (fun a wr => ∃ i : Nat, i ≤ n ∧ a = .int .i64 i ∧ ∃ u, Hid (Tk wr (w.heap.size + 1) n u) ∧ Hid (wr.ownsRow (w.heap.size + 1 + 1) 3 1 u (i * n + 0) (rowL (fun x => freR n (x / n) (x % n)) (i * n + 0))) ∧ Hid (Tk wr w.heap.size 0 (.slice none 0 0)) ∧ Hid (Below w.heap.size w wr) ∧ Hid (w.heap.size + 1 + 1 ≤ wr.heap.size)) (fun a _ => n - (intOf a).toNat)
  case atStart =>
    refine ⟨0, by omega, rfl, .slice none 0 0, ?_, ?_, ?_, ?_, ?_⟩
    · have h := Tk.made (w.alloc (.cells #[.int .i64 0, .slice none 0 0] 80)) n (.slice none 0 0)
      rw [World.size_alloc] at h
      exact hid h
    · rw [show 0 * n + 0 = 0 by omega]
      exact hid (World.ownsRow_nil _ _ _ _)
    · exact hid ((Tk.made w 0 (.slice none 0 0)).alloc _)
    · exact hid (((Below.refl _ _).alloc (Nat.le_refl _) _).alloc (by simp) _)
    · exact hid (by rw [World.size_alloc, World.size_alloc]; omega)
  case round =>
    obtain ⟨i, hi, rfl, u, HT, HO, HR, HB, HZ⟩ := hrel
    clear HS
    by_cases hin : i < n
    · have hdi : decide ((i : Int) < (n : Int)) = true := by simp; omega
      go_wp2_with fail
      go_loopw [5] (fun a wr => ∃ k : Nat, k ≤ n ∧ a = .int .i64 k ∧ ∃ u, Hid (Tk wr (w.heap.size + 1) n u) ∧ Hid (wr.ownsRow (w.heap.size + 1 + 1) 3 1 u (i * n + k) (rowL (fun x => freR n (x / n) (x % n)) (i * n + k))) ∧ Hid (Tk wr w.heap.size 0 (.slice none 0 0)) ∧ Hid (Below w.heap.size w wr) ∧ Hid (w.heap.size + 1 + 1 ≤ wr.heap.size)) (fun a _ => n - (intOf a).toNat)
      case atStart => exact ⟨0, by omega, rfl, u, HT, HO, HR, HB, HZ⟩
      case round =>
        obtain ⟨k, hk, rfl, u2, HT2, HO2, HR2, HB2, HZ2⟩ := hrel
        obtain ⟨wi, rfl⟩ : ∃ wi : World, wi = wr := ⟨_, rfl⟩
        by_cases hkn : k < n
        · have hdk : decide ((k : Int) < (n : Int)) = true := by simp; omega
          have h36 : i * n + k < 36 := by
            have h1 := at_lt hin hkn
            have h2 : n * n ≤ 36 := Nat.mul_le_mul h6 h6
            omega
          have hc1 := HT2.out.c1
          have hAT := at_div (i := i) hkn
          by_cases hik : i = k
          all_goals
            have HV := hid hik
            have HL := hid (show freR n ((i * n + k) / n) ((i * n + k) % n) = (if i = k then 64 else 8191) by
              rw [hAT.1, hAT.2]
              by_cases e : i = k
              · rw [if_pos e, ← e]; exact freR_one hin
              · rw [if_neg e]; exact freR_all hin hkn e)
          · have hq : ((i : Int) == (k : Int)) = true := by rw [hik]; simp
            have HL2 := hid (show freR n ((i * n + k) / n) ((i * n + k) % n) = 64 by rw [HL.out, if_pos HV.out])
            clear hik hAT HL
            go_wp2_with (at_builtin; refine wpList_append_lies _ rfl _ _ 35 rfl (w.heap.size + 1 + 1) 3 i0 _ 1 8 Tryd.underlying35 hi0 hz0 hz1 hz2 rfl (by decide) _ _ _ rfl (HO2.out.alloc _) ⟨wi.heap.size, 0, none⟩ 1 1 [.int .i64 ((64 : Nat) : Int)] rfl rfl ?c1 ?c2 (by omega) ?c3 ?c4 ?c5 _ rfl ?_)
            case c1 =>
              intro j x hj
              match j, hj with
              | 0, hj => simp at hj; subst hj; simp [Addr.add]
            case c2 => intro x hx; simp at hx; subst hx; rfl
            case c3 => unfold maxLen; omega
            case c4 => omega
            case c5 => have := HZ2.out; simp; omega
            intro g cap w3 hown hgrow _ hlt
            have hne : some (w.heap.size + 1) ≠ u2.ownBlock := fun e => by have := (HO2.out.lt _ e.symm).1; omega
            have hne0 : some w.heap.size ≠ u2.ownBlock := fun e => by have := (HO2.out.lt _ e.symm).1; omega
            have HT3 := hid (show Tk w3 (w.heap.size + 1) n u2 from (hgrow.block _ (by have := HZ2.out; simp; omega) hne).trans (HT2.out.alloc _))
            have HR3 := hid (show Tk w3 w.heap.size 0 (.slice none 0 0) from (hgrow.block _ (by have := HZ2.out; simp; omega) hne0).trans (HR2.out.alloc _))
            have HB3 := hid ((HB2.out.alloc (by have := HZ2.out; omega) _).grown hgrow (by have := HZ2.out; simp; omega) (fun j hj => by have := (HO2.out.lt j hj).1; omega))
            have HO3 := hid (show w3.ownsRow (w.heap.size + 1 + 1) 3 1 (.slice (some ⟨g, 0, none⟩) (i * n + k + 1) cap) (i * n + (k + 1)) (rowL (fun x => freR n (x / n) (x % n)) (i * n + (k + 1))) by
              rw [show i * n + (k + 1) = (i * n + k) + 1 by omega, ← rowL_succ, HL2.out]; exact hown)
            have HZ3 := hid (show w.heap.size + 1 + 1 ≤ w3.heap.size by have := hgrow.size; have := HZ2.out; simp at *; omega)
            clear hown hgrow hne hne0 hc1
            have hc1 := HT3.out.c1
            have hf1 := HT3.out.fr 1
            go_wp2_with fail
            go_roundw
            case rel => exact ⟨k + 1, by omega, by go_num, _, hid (HT3.out.set1 _), hid (own_set HO3.out (p := ⟨w.heap.size + 1, 1, none⟩) (by simp) _), hid (HR3.out.far (p := ⟨w.heap.size + 1, 1, none⟩) (by simp) _), hid (HB3.out.setCell (p := ⟨w.heap.size + 1, 1, none⟩) (by simp) _), hid (by simpa using HZ3.out)⟩
            case measure => simp [intOf]; omega
          · have hq : ((i : Int) == (k : Int)) = false := by rw [beq_eq_false_iff_ne]; omega
            have HL2 := hid (show freR n ((i * n + k) / n) ((i * n + k) % n) = 8191 by rw [HL.out, if_neg HV.out])
            clear hik hAT HL
            go_wp2_with (at_builtin; refine wpList_append_lies _ rfl _ _ 35 rfl (w.heap.size + 1 + 1) 3 i0 _ 1 8 Tryd.underlying35 hi0 hz0 hz1 hz2 rfl (by decide) _ _ _ rfl (HO2.out.alloc _) ⟨wi.heap.size, 0, none⟩ 1 1 [.int .i64 ((8191 : Nat) : Int)] rfl rfl ?c1 ?c2 (by omega) ?c3 ?c4 ?c5 _ rfl ?_)
            case c1 =>
              intro j x hj
              match j, hj with
              | 0, hj => simp at hj; subst hj; simp [Addr.add]
            case c2 => intro x hx; simp at hx; subst hx; rfl
            case c3 => unfold maxLen; omega
            case c4 => omega
            case c5 => have := HZ2.out; simp; omega
            intro g cap w3 hown hgrow _ hlt
            have hne : some (w.heap.size + 1) ≠ u2.ownBlock := fun e => by have := (HO2.out.lt _ e.symm).1; omega
            have hne0 : some w.heap.size ≠ u2.ownBlock := fun e => by have := (HO2.out.lt _ e.symm).1; omega
            have HT3 := hid (show Tk w3 (w.heap.size + 1) n u2 from (hgrow.block _ (by have := HZ2.out; simp; omega) hne).trans (HT2.out.alloc _))
            have HR3 := hid (show Tk w3 w.heap.size 0 (.slice none 0 0) from (hgrow.block _ (by have := HZ2.out; simp; omega) hne0).trans (HR2.out.alloc _))
            have HB3 := hid ((HB2.out.alloc (by have := HZ2.out; omega) _).grown hgrow (by have := HZ2.out; simp; omega) (fun j hj => by have := (HO2.out.lt j hj).1; omega))
            have HO3 := hid (show w3.ownsRow (w.heap.size + 1 + 1) 3 1 (.slice (some ⟨g, 0, none⟩) (i * n + k + 1) cap) (i * n + (k + 1)) (rowL (fun x => freR n (x / n) (x % n)) (i * n + (k + 1))) by
              rw [show i * n + (k + 1) = (i * n + k) + 1 by omega, ← rowL_succ, HL2.out]; exact hown)
            have HZ3 := hid (show w.heap.size + 1 + 1 ≤ w3.heap.size by have := hgrow.size; have := HZ2.out; simp at *; omega)
            clear hown hgrow hne hne0 hc1
            have hc1 := HT3.out.c1
            have hf1 := HT3.out.fr 1
            go_wp2_with fail
            go_roundw
            case rel => exact ⟨k + 1, by omega, by go_num, _, hid (HT3.out.set1 _), hid (own_set HO3.out (p := ⟨w.heap.size + 1, 1, none⟩) (by simp) _), hid (HR3.out.far (p := ⟨w.heap.size + 1, 1, none⟩) (by simp) _), hid (HB3.out.setCell (p := ⟨w.heap.size + 1, 1, none⟩) (by simp) _), hid (by simpa using HZ3.out)⟩
            case measure => simp [intOf]; omega
        · obtain rfl : k = n := by omega
          have hdk : decide ((k : Int) < (k : Int)) = false := by simp
          have HO3 := hid (own_rowL HO2.out (show i * k + k = (i + 1) * k + 0 by rw [Nat.add_mul]; omega))
          go_wp2_with fail
          go_roundw
          case rel => exact ⟨i + 1, by omega, by go_num, u2, HT2, HO3, HR2, HB2, HZ2⟩
          case measure => simp [intOf]; omega
    · obtain rfl : i = n := by omega
      have hdi : decide ((i : Int) < (i : Int)) = false := by simp
      have t0 := HT.out.c0
      have t1 := HT.out.c1
      have r0 := HR.out.c0
      have r1 := HR.out.c1
      have rf0 := HR.out.fr 0
      have rf1 := HR.out.fr 1
      have HQ := hid (own_set (own_set HO.out (p := ⟨w.heap.size, 0, none⟩) (by simp; omega) (.int .i64 (i : Int))) (p := ⟨w.heap.size, 1, none⟩) (by simp; omega) u)
      obtain ⟨ao, n', cap, rfl⟩ : ∃ ao n' cap, u = .slice ao n' cap := by
        rcases HO.out.2 with ⟨hv, _⟩ | ⟨g, cap, cur, hv, _⟩
        · exact ⟨_, _, _, hv⟩
        · exact ⟨_, _, _, hv⟩
      go_wp2_with fail
      refine bodyPost_ret (by simp [results, Tryd.results76, go_sem, *]; try rfl) rfl ?_
      exact ⟨⟨_, rfl, HQ.out⟩, (HB.out.setCell (p := ⟨w.heap.size, 0, none⟩) (by simp) _).setCell (p := ⟨w.heap.size, 1, none⟩) (by simp) _⟩
theorem l5Free_any (n : Nat) (h6 : n ≤ 6) (w : World) :
    Calls Tryd.prog 76 #[.int .i64 n] w fun e w' => (∃ v, e = .returned (.agg #[.int .i64 n, v]) ∧ Ts w' w'.heap.size v (n * n) (fun x => freR n (x / n) (x % n))) ∧ Below w.heap.size w w' :=
  (l5Free_own n h6 w).mono fun e w' ⟨⟨v, h1, h2⟩, hb⟩ => ⟨⟨v, h1, Ts.of_own h2⟩, hb⟩
theorem eqNet_same (z : Int) (s : ByteArray) (w : World) :
    Calls Tryd.prog 36 #[.agg #[.int .i64 z, .string s], .agg #[.int .i64 z, .string s]] w fun e w' => e = .returned (.bool true) ∧ Below w.heap.size w w' := by
  have HS := AllLt.start w; go_enter Tryd.func36, Tryd.ntmps36
  go_wp2
  go_ret
  exact ⟨rfl, by (repeat' (first | (with_reducible exact Below.refl _ _) | (with_reducible refine Below.setCell ?_ ?_ _) | (with_reducible refine below_drewN' ?_ _) | (with_reducible refine below_drew' ?_) | (with_reducible refine Below.alloc ?_ ?_ _) | (with_reducible assumption) | go_size))⟩
end
section
open Go.RowKit
set_option linter.unusedVariables false
set_option linter.unusedSimpArgs false
theorem row_at {w : World} {b T m : Nat} {u : Value} {L : Nat → Nat} (h : w.ownsRow b T 1 u m (rowL L m)) {j : Nat} (hj : j < m) :
    ∃ g cap, u = .slice (some ⟨g, 0, none⟩) m cap ∧ b ≤ g ∧ g < w.heap.size ∧ w.cell? ⟨g, j, none⟩ = some (.int .i64 ((L j : Nat) : Int)) ∧ w.frozen? ⟨g, j, none⟩ = false := by
  have h0 := h
  rcases h.2 with ⟨_, hn⟩ | ⟨g, cap, cur, rfl, hB, hg, h1, h2, h3, h4⟩
  · omega
  · refine ⟨g, cap, rfl, hB, (Array.getElem?_eq_some_iff.1 hg).1, ?_, frozen_of_row w g j _ _ hg⟩
    have ha : ∀ j, (⟨g, 0, none⟩ : Addr).add j = ⟨g, j, none⟩ := fun j => by unfold Addr.add; split <;> simp_all
    have c1 := h0.cells (g := g) rfl j (.int .i64 ((L j : Nat) : Int)) (by simp [rowL, hj])
    rw [ha] at c1
    exact c1
/-- a row with another relation at a place -/
def updL (L : Nat → Nat) (j r : Nat) : Nat → Nat := fun x => if x = j then r else L x
theorem rowL_set (L : Nat → Nat) (m j r : Nat) : (rowL L m).set j (.int .i64 ((r : Nat) : Int)) = rowL (updL L j r) m := by
  apply List.ext_getElem?
  intro y
  rw [List.getElem?_set]
  by_cases e : j = y
  · subst e
    by_cases hj : j < m <;> simp [rowL, updL, hj]
  · have e' : ¬ y = j := fun h => e h.symm
    simp [rowL, updL, e, e']
    by_cases hy : y < m <;> simp [hy, e']
theorem own_put {w : World} {b T m g cap : Nat} {L : Nat → Nat} (h : w.ownsRow b T 1 (.slice (some ⟨g, 0, none⟩) m cap) m (rowL L m)) (j r : Nat) : (w.setCell ⟨g, j, none⟩ (.int .i64 ((r : Nat) : Int))).ownsRow b T 1 (.slice (some ⟨g, 0, none⟩) m cap) m (rowL (updL L j r) m) := by
  obtain ⟨h1, h2⟩ := h
  refine ⟨by simp [rowL], .inr ?_⟩
  rcases h2 with ⟨hv, _⟩ | ⟨g', cap', cur, hv, hB, hg, e1, e2, e3, e4⟩
  · cases hv
  · cases hv
    refine ⟨g, cap, cur.setIfInBounds j (.int .i64 ((r : Nat) : Int)), rfl, hB, heap_setCell_same w g _ _ _ _ hg, e1, e2, by simpa using e3, ?_⟩
    rw [← rowL_set, ← e4, Array.toList_setIfInBounds]
    exact List.take_set
theorem own_ext {w : World} {b T m : Nat} {u : Value} {L M : Nat → Nat} (h : w.ownsRow b T 1 u m (rowL L m)) (e : ∀ x, x < m → L x = M x) : w.ownsRow b T 1 u m (rowL M m) := by
  have : rowL L m = rowL M m := by
    unfold rowL
    apply List.map_congr_left
    intro x hx
    rw [e x (List.mem_range.1 hx)]
  rw [← this]; exact h
theorem nk_alloc {w : World} {g : Nat} {z : Int} {s : ByteArray} (h : Nk w g z s) (o : Obj) : Nk (w.alloc o) g z s := (Below.heap_alloc w o g h.lt).trans h
theorem tk_grown {wi w1 w3 : World} {row : Option Nat} {g : Nat} {z : Int} {v : Value} (h : Tk wi g z v) (hg : w1.grownBy w3 row) (hp : Below wi.heap.size wi w1) (hne : some g ≠ row) : Tk w3 g z v :=
  (hg.block g (Nat.lt_of_lt_of_le h.lt hp.size) hne).trans ((hp.block g h.lt).trans h)
theorem nk_grown {wi w1 w3 : World} {row : Option Nat} {g : Nat} {z : Int} {s : ByteArray} (h : Nk wi g z s) (hg : w1.grownBy w3 row) (hp : Below wi.heap.size wi w1) (hne : some g ≠ row) : Nk w3 g z s :=
  (hg.block g (Nat.lt_of_lt_of_le h.lt hp.size) hne).trans ((hp.block g h.lt).trans h)
set_option maxHeartbeats 4000000 in
set_option maxRecDepth 100000 in
theorem l5Open_any (n : Nat) (h6 : n ≤ 6) (R : Nat → Nat → Nat) (hR : ∀ i k, R i k < 8192) (w : World) :
    Calls Tryd.prog 66 #[.agg #[.int .i64 n, .string (netS n R)]] w fun e w' => (∃ u, e = .returned (.agg #[.int .i64 n, u]) ∧ w'.ownsRow (w.heap.size + 1 + 1 + 1) 3 1 u (n * n) (rowL (fun x => R (x / n) (x % n)) (n * n))) ∧ Below w.heap.size w w' := by
  obtain ⟨i0, hi0, hz0, hz1, hz2⟩ := info_parts netInt
  have HD0 : ∀ x, x < n * n → nb (dgs (netS n R) x) = ((R (x / n) (x % n) : Nat) : Int) := fun x hx => by rw [dgs_net n R hx, nb_dig (by have := hR (x / n) (x % n); omega)]
  have h36 : n * n ≤ 36 := Nat.mul_le_mul h6 h6
  have hsz := netS_size n R
  obtain ⟨L, hL⟩ : ∃ L : Nat → Nat, L = fun x => R (x / n) (x % n) := ⟨_, rfl⟩
  have HLT := hid (show ∀ x, L x < 8192 from fun x => by rw [hL]; exact hR _ _)
  have HD := hid (show ∀ x, x < n * n → nb (dgs (netS n R) x) = ((L x : Nat) : Int) from fun x hx => by rw [hL]; exact HD0 x hx)
  rw [← hL]
  clear HD0 hR hL
  generalize netS n R = s at *
  generalize n * n = nn at *
  have HS4 := hid hsz
  clear hsz
  have HS := AllLt.start w; go_enter Tryd.func66, Tryd.ntmps66
  go_wp2_with fail
  go_loopw [4] (fun a wr => ∃ x : Nat, x ≤ nn ∧ a = .int .i64 (4 * (x : Int)) ∧ ∃ u, Hid (Tk wr (w.heap.size + 1 + 1) n u) ∧ Hid (wr.ownsRow (w.heap.size + 1 + 1 + 1) 3 1 u x (rowL L x)) ∧ Hid (Tk wr (w.heap.size + 1) 0 (.slice none 0 0)) ∧ Hid (Nk wr w.heap.size n s) ∧ Hid (Below w.heap.size w wr) ∧ Hid (w.heap.size + 1 + 1 + 1 ≤ wr.heap.size)) (fun a _ => 4 * nn - (intOf a).toNat)
  case atStart =>
    refine ⟨0, by omega, rfl, .slice none 0 0, ?_, ?_, ?_, ?_, ?_, ?_⟩
    · have h := Tk.made ((w.alloc (.cells #[.int .i64 (n : Int), .string s] 44)).alloc (.cells #[.int .i64 0, .slice none 0 0] 80)) n (.slice none 0 0)
      rw [World.size_alloc, World.size_alloc] at h
      exact hid h
    · exact hid (World.ownsRow_nil _ _ _ _)
    · have h := (Tk.made (w.alloc (.cells #[.int .i64 (n : Int), .string s] 44)) 0 (.slice none 0 0)).alloc (.cells #[.int .i64 (n : Int), .slice none 0 0] 80)
      rw [World.size_alloc] at h
      exact hid h
    · exact hid (nk_alloc (nk_alloc (Nk.made w n s) _) _)
    · exact hid ((((Below.refl _ _).alloc (Nat.le_refl _) _).alloc (by simp) _).alloc (by simp; omega) _)
    · exact hid (by rw [World.size_alloc, World.size_alloc, World.size_alloc]; omega)
  case round =>
    obtain ⟨x, hx, rfl, u, HT, HO, HR, HK, HB, HZ⟩ := hrel
    clear HS
    obtain ⟨wi, rfl⟩ : ∃ wi : World, wi = wr := ⟨_, rfl⟩
    have k1 := HK.out.c1
    by_cases hxn : x < nn
    · have hdi : decide (4 * (x : Int) < (s.size : Int)) = true := by have := HS4.out; simp; omega
      have t1 := HT.out.c1
      have hf := HT.out.fr 1
      have hss := HS4.out
      have hsl := slice_dgs s x (by omega)
      have hse : s.extract (4 * (x : Int)).toNat (4 * (x : Int) + 4).toNat = dgs s x := by
        rw [show (4 * (x : Int)).toNat = 4 * x by omega, show (4 * (x : Int) + 4).toNat = 4 * x + 4 by omega]; rfl
      have b0 : (0 : Int) ≤ 4 * (x : Int) := by omega
      have b1 : 4 * (x : Int) ≤ 4 * (x : Int) + 4 := by omega
      have b2 : 4 * (x : Int) + 4 ≤ (s.size : Int) := by omega
      have hw4 : IntKind.i64.wrap (4 * (x : Int) + 4) = 4 * (x : Int) + 4 := IntWalk.i64_in _ (by omega)
      have HN := hid (HD.out x hxn)
      have HC := hid (l5Number_any (dgs s x) (dgs_size HS4.out hxn))
      have hne2 : some (w.heap.size + 1 + 1) ≠ u.ownBlock := fun e => by have := (HO.out.lt _ e.symm).1; omega
      have hne1 : some (w.heap.size + 1) ≠ u.ownBlock := fun e => by have := (HO.out.lt _ e.symm).1; omega
      have hne0 : some w.heap.size ≠ u.ownBlock := fun e => by have := (HO.out.lt _ e.symm).1; omega
      have H2 := hid hne2
      have H1 := hid hne1
      have H0 := hid hne0
      have hzz : w.heap.size + 1 + 1 < wi.heap.size := by have := HZ.out; omega
      have hzn : ¬ w.heap.size + 1 + 1 = wi.heap.size := by omega
      have hzm : ¬ wi.heap.size = w.heap.size + 1 + 1 := by omega
      have t2 : ∀ o : Obj, (wi.drew.alloc o).cell? ⟨w.heap.size + 1 + 1, 1, none⟩ = some u := fun o => (HT.out.below ((Below.refl wi.heap.size wi).drew.alloc (Nat.le_refl _) o) hzz).c1
      clear hss hne2 hne1 hne0
      go_wp2_with fail
      go_region_law (first
        | (go_simp; go_at_call 114; (with_reducible refine (HC.out _).mono ?_); rintro e w' ⟨rfl, rfl⟩; rw [HN.out])
        | (refine step_append_lies _ (by rfl) _ _ 35 (by rfl) (w.heap.size + 1 + 1 + 1) 3 i0 _ 1 8 Tryd.underlying35 hi0 hz0 hz1 hz2 rfl (by decide) u x (rowL L x) (by rfl) (own_below' HO.out (by (repeat' (first | (with_reducible exact Below.refl _ _) | (with_reducible refine Below.setCell ?_ ?_ _) | (with_reducible refine below_drewN' ?_ _) | (with_reducible refine below_drew' ?_) | (with_reducible refine Below.alloc ?_ ?_ _) | (with_reducible assumption) | go_size)))) ⟨wi.heap.size, 0, none⟩ 1 1 [.int .i64 ((L x : Nat) : Int)] (by rfl) (by rfl) (World.news_of_block (cs := #[.int .i64 ((L x : Nat) : Int)]) (fr := (0, 0)) (heap_alloc_new _ _)) (by simp [Value.oneCell']) (by omega) (by unfold maxLen; omega) (by omega) (by have := HZ.out; simp; omega) _ rfl ?_
           intro g cap w3 hown hgrow _ hlt
           have HT3 := hid (tk_grown HT.out hgrow (by (repeat' (first | (with_reducible exact Below.refl _ _) | (with_reducible refine Below.setCell ?_ ?_ _) | (with_reducible refine below_drewN' ?_ _) | (with_reducible refine below_drew' ?_) | (with_reducible refine Below.alloc ?_ ?_ _) | (with_reducible assumption) | go_size))) H2.out)
           have HR3 := hid (tk_grown HR.out hgrow (by (repeat' (first | (with_reducible exact Below.refl _ _) | (with_reducible refine Below.setCell ?_ ?_ _) | (with_reducible refine below_drewN' ?_ _) | (with_reducible refine below_drew' ?_) | (with_reducible refine Below.alloc ?_ ?_ _) | (with_reducible assumption) | go_size))) H1.out)
           have HK3 := hid (nk_grown HK.out hgrow (by (repeat' (first | (with_reducible exact Below.refl _ _) | (with_reducible refine Below.setCell ?_ ?_ _) | (with_reducible refine below_drewN' ?_ _) | (with_reducible refine below_drew' ?_) | (with_reducible refine Below.alloc ?_ ?_ _) | (with_reducible assumption) | go_size))) H0.out)
           have HB3 := hid ((HB.out.trans (Below.mono (show Below wi.heap.size wi _ from by (repeat' (first | (with_reducible exact Below.refl _ _) | (with_reducible refine Below.setCell ?_ ?_ _) | (with_reducible refine below_drewN' ?_ _) | (with_reducible refine below_drew' ?_) | (with_reducible refine Below.alloc ?_ ?_ _) | (with_reducible assumption) | go_size))) HB.out.size)).grown hgrow (by have := HB.out.size; simp; omega) (fun j hj => by have := (HO.out.lt j hj).1; omega))
           have HO3 := hid hown
           have HZ3 := hid (show w.heap.size + 1 + 1 + 1 ≤ w3.heap.size by have := hgrow.size; have := HZ.out; simp at *; omega)
           have t3 := HT3.out.c1
           have f3 := HT3.out.fr 1
           clear hown hgrow hlt))
      all_goals
        go_wp2_with fail
        go_roundw
        case rel =>
          refine ⟨x + 1, by omega, ?_, _, hid (HT3.out.set1 _), ?_, hid (HR3.out.far (p := ⟨w.heap.size + 1 + 1, 1, none⟩) (by simp) _), hid (HK3.out.far (p := ⟨w.heap.size + 1 + 1, 1, none⟩) (show w.heap.size ≠ w.heap.size + 1 + 1 by omega) _), hid (HB3.out.setCell (p := ⟨w.heap.size + 1 + 1, 1, none⟩) (by simp; omega) _), hid (by simpa using HZ3.out)⟩
          · first | go_num | (congr 1; push_cast; omega)
          · rw [← rowL_succ]; exact hid (own_set HO3.out (p := ⟨w.heap.size + 1 + 1, 1, none⟩) (by simp) _)
        case measure => simp [intOf]; omega
    · obtain rfl : x = nn := by omega
      have hdi : decide (4 * (x : Int) < (s.size : Int)) = false := by have := HS4.out; simp; omega
      obtain ⟨ao, n', cap, rfl⟩ : ∃ ao n' cap, u = .slice ao n' cap := by
        rcases HO.out.2 with ⟨hv, _⟩ | ⟨g, cap, cur, hv, _⟩
        · exact ⟨_, _, _, hv⟩
        · exact ⟨_, _, _, hv⟩
      have t0 := HT.out.c0
      have t1 := HT.out.c1
      have r0 := HR.out.c0
      have r1 := HR.out.c1
      have rf0 := HR.out.fr 0
      have rf1 := HR.out.fr 1
      have HQ := hid (own_set (own_set HO.out (p := ⟨w.heap.size + 1, 0, none⟩) (show w.heap.size + 1 < w.heap.size + 1 + 1 + 1 by omega) (.int .i64 (n : Int))) (p := ⟨w.heap.size + 1, 1, none⟩) (show w.heap.size + 1 < w.heap.size + 1 + 1 + 1 by omega) (.slice ao n' cap))
      go_wp2_with fail
      refine bodyPost_ret (by simp [results, Tryd.results66, go_sem, *]; try rfl) rfl ?_
      exact ⟨⟨_, rfl, HQ.out⟩, (HB.out.setCell (p := ⟨w.heap.size + 1, 0, none⟩) (by simp) _).setCell (p := ⟨w.heap.size + 1, 1, none⟩) (by simp) _⟩
end
end Go.Proofs.YtmdgkhebefnfeaaDoor.C
