/- The model's table of relations of a network, closed to a text. -/
import Derived.Test.YtholffjadnaloaaDoorNetN
import Derived.Test.YtholffjadnaloaaDoorNetS
import Derived.Deep.RegionHeld3
import Derived.Deep.DeepCutAuto
import Derived.Laws.AppendOwn
import Derived.OwnWalk
namespace Go.Proofs.YtholffjadnaloaaDoor.C
open Go.RowKit
set_option linter.unusedVariables false
set_option linter.unusedSimpArgs false
/-- the text of the first m relations of a row -/
def catB (L : Nat → Nat) (m : Nat) : ByteArray := ⟨(catD ((List.range m).map L)).toArray⟩
theorem catB_0 (L : Nat → Nat) : catB L 0 = ⟨#[]⟩ := rfl
theorem catB_succ (L : Nat → Nat) (m : Nat) : catB L m ++ dig (L m) = catB L (m + 1) := by
  apply ByteArray.ext
  rw [ByteArray.data_append]
  apply Array.ext'
  rw [Array.toList_append]
  simp only [catB, List.range_succ, List.map_append, List.map_cons, List.map_nil, catD_snoc]
  rfl
theorem catB_size (L : Nat → Nat) (m : Nat) : (catB L m).size = 4 * m := by
  show (catD ((List.range m).map L)).toArray.size = _
  rw [List.size_toArray, catD_len]; simp
theorem catB_net (n : Nat) (R : Nat → Nat → Nat) : catB (fun x => R (x / n) (x % n)) (n * n) = netS n R := rfl
theorem ret_net2 {a : Int} {b c : ByteArray} {d : Bool} (h : b = c) : Ending.returned (.tuple #[.agg #[.int .i64 a, .string b], .bool d]) = .returned (.tuple #[.agg #[.int .i64 a, .string c], .bool d]) := by rw [h]
/-- A slice of m relations, wherever it lies below a bound. -/
def Ts (w : World) (B : Nat) (v : Value) (m : Nat) (L : Nat → Nat) : Prop :=
  ∃ a cap, v = .slice a m cap ∧ ∀ j, j < m → ∃ g, a = some ⟨g, 0, none⟩ ∧ g < B ∧ w.cell? ⟨g, j, none⟩ = some (.int .i64 ((L j : Nat) : Int))
theorem Ts.of_own {w : World} {v : Value} {L : Nat → Nat} {m base : Nat} {T : TypeId} (h : w.ownsRow base T 1 v m ((List.range m).map fun x => .int .i64 ((L x : Nat) : Int))) : Ts w w.heap.size v m L := by
  have h0 := h
  rcases h.2 with ⟨rfl, hn⟩ | ⟨g, cap, cur, rfl, hB, hg, h1, h2, h3, h4⟩
  · exact ⟨none, 0, by rw [hn], fun i hi => by omega⟩
  · refine ⟨_, cap, rfl, fun i hi => ⟨g, rfl, (Array.getElem?_eq_some_iff.1 hg).1, ?_⟩⟩
    have ha : ∀ j, (⟨g, 0, none⟩ : Addr).add j = ⟨g, j, none⟩ := fun j => by unfold Addr.add; split <;> simp_all
    have c1 := h0.cells (g := g) rfl i (.int .i64 ((L i : Nat) : Int)) (by simp [hi])
    rw [ha] at c1
    exact c1
set_option maxHeartbeats 4000000 in
set_option maxRecDepth 100000 in
theorem l5Close_any (z : Int) (v : Value) (m : Nat) (hm : m ≤ 36) (L : Nat → Nat) (hL : ∀ j, j < m → L j < 8192) (w : World) (hv : Ts w w.heap.size v m L) :
    Calls Tryd.prog 54 #[.agg #[.int .i64 z, v]] w fun e w' => e = .returned (.agg #[.int .i64 z, .string (catB L m)]) ∧ Below w.heap.size w w' := by
  obtain ⟨a, cap, rfl, hE⟩ := hv
  have HE := hid hE
  have HL := hid hL
  clear hE hL
  have HS := AllLt.start w; go_enter Tryd.func54, Tryd.ntmps54
  go_wp2_with fail
  go_loopw [4] (fun v wr => ∃ j : Nat, j ≤ m ∧ v = .int .i64 j ∧ Hid (Nk wr (w.heap.size + 1 + 1) z (catB L j)) ∧ Hid (Below (w.heap.size + 1 + 1) ((w.alloc (.cells #[.int .i64 z, .slice a m cap] 61)).alloc (.cells #[.int .i64 0, .string ⟨#[]⟩] 26)) wr)) (fun v _ => m - (intOf v).toNat)
  case atStart => exact ⟨0, by omega, rfl, hid (by have h := Nk.made ((w.alloc (.cells #[.int .i64 z, .slice a m cap] 61)).alloc (.cells #[.int .i64 0, .string ⟨#[]⟩] 26)) z (catB L 0); rw [World.size_alloc, World.size_alloc] at h; exact h), hid ((Below.refl _ _).alloc (by simp) _)⟩
  case round =>
    obtain ⟨j, hj, rfl, HN, HB⟩ := hrel
    clear HS
    have lt0 : w.heap.size < w.heap.size + 1 + 1 := by omega
    have lt1 : w.heap.size + 1 < w.heap.size + 1 + 1 := by omega
    have q0 : wr.cell? ⟨w.heap.size, 1, none⟩ = some (.slice a m cap) := by rw [HB.out.cell (p := ⟨w.heap.size, 1, none⟩) lt0]; simp [go_sem]
    have HR := hid (Nk.below (g := w.heap.size + 1) (z := 0) (s := ⟨#[]⟩) (by have h := Nk.made (w.alloc (.cells #[.int .i64 z, .slice a m cap] 61)) 0 ⟨#[]⟩; rw [World.size_alloc] at h; exact h) HB.out lt1)
    have HBw := hid (((((Below.refl w.heap.size w).alloc (Nat.le_refl _) (.cells #[.int .i64 z, .slice a m cap] 61)).alloc (by simp) (.cells #[.int .i64 0, .string ⟨#[]⟩] 26))).trans (HB.out.mono (by omega)))
    have n0 := HN.out.c0
    have n1 := HN.out.c1
    by_cases hjm : j < m
    · have hdj : decide ((j : Int) < (m : Int)) = true := by simp; omega
      have hdk : decide (j < m) = true := by simp; omega
      obtain ⟨g, rfl, hg, hc⟩ := HE.out j hjm
      have hg2 : g < w.heap.size + 1 + 1 := by omega
      have hq : wr.cell? ⟨g, j, none⟩ = some (.int .i64 ((L j : Nat) : Int)) := by
        rw [HB.out.cell (p := ⟨g, j, none⟩) hg2]
        exact ((((Below.refl w.heap.size w).alloc (Nat.le_refl _) _).alloc (by simp) _).cell (p := ⟨g, j, none⟩) hg).trans hc
      have hr8 := HL.out j hjm
      have fr := HN.out.fr 1
      have HD := hid (l5Digits_any (L j) (by omega))
      have ha : ((catB L j).size : Int) ≤ 8388608 := by rw [catB_size]; omega
      have hb : ((dig (L j)).size : Int) ≤ 8388608 := by rw [dig_size]; omega
      have hrun : ∀ w : World, (Op.stringOp .add (catB L j) (dig (L j))).run Tryd.prog w = .ok (.string (catB L j ++ dig (L j))) w := fun w => run_string_add_sum (P := Tryd.prog) (w := w) _ _ (by omega)
      go_wp2_with fail
      go_region_with (first | (go_at_call 103; (with_reducible refine (HD.out _).mono ?_); rintro e w' ⟨rfl, rfl⟩) | fail)
      all_goals
        go_wp2_with fail
        trace_state
        go_roundw
        case rel => exact ⟨j + 1, by omega, by go_num, hid (by rw [← catB_succ]; exact (show Nk wr.drew _ _ _ from HN.out).set1 _), hid (HB.out.drew.setCell (p := ⟨w.heap.size + 1 + 1, 1, none⟩) (Nat.le_refl _) _)⟩
        case measure => simp [intOf]; omega
    · obtain rfl : j = m := by omega
      have hdj : decide ((j : Int) < (j : Int)) = false := by simp
      have r0 := HR.out.c0
      have r1 := HR.out.c1
      have rf0 := HR.out.fr 0
      have rf1 := HR.out.fr 1
      go_wp2_with fail
      refine bodyPost_ret (by simp [results, Tryd.results54, go_sem, *]; try rfl) rfl ?_
      exact ⟨rfl, (HBw.out.setCell (p := ⟨w.heap.size + 1, 0, none⟩) (by simp) _).setCell (p := ⟨w.heap.size + 1, 1, none⟩) (by simp) _⟩
end Go.Proofs.YtholffjadnaloaaDoor.C
