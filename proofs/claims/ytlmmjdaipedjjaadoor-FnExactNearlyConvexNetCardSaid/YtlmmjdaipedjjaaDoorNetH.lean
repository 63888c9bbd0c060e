/- The program's edges of a network. -/
import Derived.Test.YtlmmjdaipedjjaaDoorNetF
import Derived.Test.YtlmmjdaipedjjaaDoorNetE
import Derived.OwnWalk
import Derived.Laws.AppendOwn
import Derived.Deep.RegionHeld3
namespace Go.Proofs.YtlmmjdaipedjjaaDoor.C
open Go.RowKit
set_option linter.unusedVariables false
set_option linter.unusedSimpArgs false
theorem own_below' {w w' : World} {base e size n : Nat} {v : Value} {xs : List Value} (h : w.ownsRow base e size v n xs) (hb : Below w.heap.size w w') : w'.ownsRow base e size v n xs :=
  h.kept (row := none) ⟨hb.os, hb.tape, hb.output, hb.size, fun k hk _ => hb.block k hk⟩ (by cases hv : v.ownBlock <;> simp)
/-- the cells of edges -/
def edC (M : Nat → Nat → Nat) (l : List (Nat × Nat)) : List Value := l.flatMap fun p => [.int .i64 (p.1 : Int), .int .i64 ((M p.1 p.2 : Nat) : Int), .int .i64 (p.2 : Int)]
theorem edC_snoc (M : Nat → Nat → Nat) (l : List (Nat × Nat)) (i k : Nat) : edC M (l ++ [(i, k)]) = edC M l ++ [.int .i64 (i : Int), .int .i64 ((M i k : Nat) : Int), .int .i64 (k : Int)] := by simp [edC]
theorem edC_len (M : Nat → Nat → Nat) : ∀ l : List (Nat × Nat), (edC M l).length = l.length * 3
  | [] => rfl
  | p :: l => by
    have := edC_len M l
    simp only [edC, List.flatMap_cons, List.length_append, List.length_cons] at *
    simp only [List.length_nil]
    omega
theorem edC_at (M : Nat → Nat → Nat) : ∀ (l : List (Nat × Nat)) (j : Nat), j < l.length → (edC M l)[3 * j]? = some (.int .i64 ((l.getD j (0, 0)).1 : Int)) ∧ (edC M l)[3 * j + 1]? = some (.int .i64 ((M (l.getD j (0, 0)).1 (l.getD j (0, 0)).2 : Nat) : Int)) ∧ (edC M l)[3 * j + 2]? = some (.int .i64 ((l.getD j (0, 0)).2 : Int))
  | [], j, h => by simp at h
  | p :: l, 0, _ => by simp [edC]
  | p :: l, j + 1, h => by
    have := edC_at M l j (by simpa using h)
    rw [show 3 * (j + 1) = 3 * j + 3 by omega]
    simpa [edC] using this
theorem edInfo : (Tryd.prog.info? 83).map (fun i => (i.zero, i.size, i.bytes)) = some (some (.agg #[.int .i64 0, .int .i64 0, .int .i64 0]), 3, 24) := by kernel_rfl
set_option maxHeartbeats 4000000 in
set_option maxRecDepth 100000 in
theorem edges_any (n : Nat) (h6 : n ≤ 6) (M : Nat → Nat → Nat) (w : World) :
    Calls Tryd.prog 86 #[.agg (netV n M)] w fun e w' => (∃ v, e = .returned v ∧ w'.ownsRow (w.heap.size + 1) 83 3 v (edL n).length (edC M (edL n))) ∧ Below w.heap.size w w' := by
  obtain ⟨i0, hi0, hz0, hz1, hz2⟩ := info_parts edInfo
  have HN0 := hid (NB.made w n M)
  have hc0 := HN0.out.cell0
  have HS := AllLt.start w; go_enter Tryd.func86, Tryd.ntmps86
  go_wp2_with fail
  go_loopw [3, 9] (fun v a wr => ∃ i : Nat, i ≤ n ∧ a = .int .i64 i ∧ Hid (wr.ownsRow (w.heap.size + 1) 83 3 v (edF n i).length (edC M (edF n i))) ∧ Hid (NB wr w.heap.size n M) ∧ Hid (Below (w.heap.size + 1) (w.alloc (.cells (netV n M) 53)) wr)) (fun _ a _ => n - (intOf a).toNat)
  case atStart => exact ⟨0, by omega, rfl, hid (World.ownsRow_nil _ _ _ _), HN0, hid (Below.refl _ _)⟩
  case round =>
    obtain ⟨i, hi, rfl, HO, HN, HB⟩ := hrel
    clear HS HN0 hc0
    by_cases hin : i < n
    · have hdi : decide ((i : Int) < (n : Int)) = true := by simp; omega
      have hcn := HN.out.cell0
      go_wp2_with fail
      clear hcn
      go_loopw [3, 5] (fun v a wr => ∃ m : Nat, i + 1 ≤ m ∧ m ≤ n ∧ a = .int .i64 m ∧ Hid (wr.ownsRow (w.heap.size + 1) 83 3 v (edF n i ++ edI i (m - i - 1)).length (edC M (edF n i ++ edI i (m - i - 1)))) ∧ Hid (NB wr w.heap.size n M) ∧ Hid (Below (w.heap.size + 1) (w.alloc (.cells (netV n M) 53)) wr)) (fun _ a _ => n - (intOf a).toNat)
      case atStart => exact ⟨i + 1, by omega, by omega, by go_num, by rw [show i + 1 - i - 1 = 0 by omega]; simpa [edI] using HO, HN, HB⟩
      case round =>
        obtain ⟨m, hm, hmn, rfl, HO2, HN2, HB2⟩ := hrel
        (try clear HO HN HB)
        obtain ⟨wi, rfl⟩ : ∃ wi : World, wi = wr := ⟨_, rfl⟩
        have hcn := HN2.out.cell0
        by_cases hkn : m < n
        · have hdk : decide ((m : Int) < (n : Int)) = true := by simp; omega
          have hlen : (edF n i ++ edI i (m - i - 1)).length ≤ 30 := by
            have := edF_len h6 (show i ≤ n by omega)
            rw [List.length_append, edI_len]; omega
          go_wp2_with (refine ld_net rfl _ rfl rfl HN2.out ?_)
          (with_reducible refine (edge_any n M i m (by omega) (by omega) _).mono ?_)
          rintro e w2 ⟨rfl, hb⟩
          have HO3 := hid (own_below' HO2.out hb)
          have HN3 := hid (HN2.out.below' hb)
          have HB3 := hid (HB2.out.trans (hb.mono (by have := HB2.out.size; simpa using this)))
          have hbase : Hid (w.heap.size + 1 ≤ w2.heap.size) := hid (by have := HB3.out.size; simpa using this)
          clear hcn hb HO2 HN2 HB2
          go_wp2_with (at_builtin; refine wpList_append_own _ rfl _ _ 95 rfl (w.heap.size + 1) 83 i0 _ 3 24 Tryd.underlying95 hi0 hz0 hz1 hz2 rfl (by decide) _ _ _ rfl (HO3.out.alloc _) ⟨w2.heap.size, 0, none⟩ 1 1 [.int .i64 i, .int .i64 ((M i m : Nat) : Int), .int .i64 m] rfl rfl ?c1 ?c2 ?c3 ?c4 ?c5 ?_)
          case c1 =>
            intro j u hj
            match j, hj with
            | 0, hj => simp at hj; subst hj; simp [Addr.add]
            | 1, hj => simp at hj; subst hj; simp [Addr.add]
            | 2, hj => simp at hj; subst hj; simp [Addr.add]
          case c2 => intro u hu; simp at hu; rcases hu with rfl | rfl | rfl <;> rfl
          case c3 => unfold maxLen; omega
          case c4 => omega
          case c5 => have := hbase.out; simp; omega
          intro v' w3 hown' hgrow _
          have HB4 := hid ((HB3.out.alloc (by have := hbase.out; omega) _).grown hgrow (by have := hbase.out; simp; omega) (fun j hj => (HO3.out.lt j hj).1))
          have HN4 := hid (show NB w3 w.heap.size n M from (hgrow.block _ (by have := hbase.out; simp; omega) (fun e => by have := (HO3.out.lt _ e.symm).1; omega)).trans (HN3.out.alloc _))
          have HO4 : Hid (w3.ownsRow (w.heap.size + 1) 83 3 v' (edF n i ++ edI i (m + 1 - i - 1)).length (edC M (edF n i ++ edI i (m + 1 - i - 1)))) := hid (by
            have e0 : edI i (m + 1 - i - 1) = edI i (m - i - 1) ++ [(i, m)] := by rw [show m + 1 - i - 1 = (m - i - 1) + 1 by omega, edI_succ, show i + 1 + (m - i - 1) = m by omega]
            have e1 : (edF n i ++ edI i (m + 1 - i - 1)).length = (edF n i ++ edI i (m - i - 1)).length + 1 := by rw [e0, ← List.append_assoc, List.length_append]; rfl
            rw [e1, e0, ← List.append_assoc, edC_snoc, List.length_append]
            exact hown')
          clear hown' hgrow
          go_wp2
          go_roundw
          case rel => exact ⟨m + 1, by omega, by omega, by go_num, HO4, HN4, HB4⟩
          case measure => simp [intOf]; omega
        · obtain rfl : m = n := by omega
          have hdk : decide ((m : Int) < (m : Int)) = false := by simp
          have HO4 : Hid (wi.ownsRow (w.heap.size + 1) 83 3 u3 (edF m (i + 1)).length (edC M (edF m (i + 1)))) := hid (by
            show wi.ownsRow _ _ _ _ (edF m i ++ edI i (m - 1 - i)).length (edC M (edF m i ++ edI i (m - 1 - i)))
            rw [show m - 1 - i = m - i - 1 by omega]; exact HO2.out)
          go_wp2
          go_roundw
          case rel => exact ⟨i + 1, by omega, by go_num, HO4, HN2, HB2⟩
          case measure => simp [intOf]; omega
    · obtain rfl : i = n := by omega
      have hdi : decide ((i : Int) < (i : Int)) = false := by simp
      go_wp2
      go_ret
      exact ⟨⟨_, rfl, HO.out⟩, ((Below.refl _ _).alloc (Nat.le_refl _) _).trans (HB.out.mono (by omega))⟩
theorem rturned_any (n : Nat) (hn : n < 8192) (w : World) (hT : TB w) :
    Calls Tryd.prog 141 #[.int .i64 n] w fun e w' => e = .returned (.int .i64 ((turN n : Nat) : Int)) ∧ Below w.heap.size w w' := by
  have HT := hid hT
  clear hT
  have HS := AllLt.start w; go_enter Tryd.func141, Tryd.ntmps141
  go_wp2_with fail
  (with_reducible refine (changed_turned n hn _ HT.out).mono ?_)
  rintro e w' ⟨rfl, hb⟩
  go_wp2
  go_ret
  exact ⟨rfl, hb⟩
set_option maxHeartbeats 1000000 in
theorem eturn_any (i r k : Nat) (hr : r < 8192) (w : World) (hT : TB w) :
    Calls Tryd.prog 115 #[.agg #[.int .i64 i, .int .i64 r, .int .i64 k]] w fun e w' => e = .returned (.agg #[.int .i64 k, .int .i64 ((turN r : Nat) : Int), .int .i64 i]) ∧ Below w.heap.size w w' := by
  have HT := hid hT
  clear hT
  have HS := AllLt.start w; have hn2 := lt2; have hn3 := lt3; have hn4 := lt4; go_enter Tryd.func115, Tryd.ntmps115
  go_wp2_with fail
  go_region_held3 (fun w' => w'.cell? ⟨w.heap.size, 0, none⟩ = some (.int .i64 i) ∧ w'.cell? ⟨w.heap.size, 1, none⟩ = some (.int .i64 r) ∧ w'.cell? ⟨w.heap.size, 2, none⟩ = some (.int .i64 k)) (go_keep)
    (first | (go_at_call 141; (with_reducible refine (rturned_any r hr _ (HT.out.below (by go_grown))).mono ?_); rintro e w' ⟨rfl, hb⟩; obtain ⟨HB, hz0, hz, hc, hf⟩ := bst (w0 := w) (by go_grown) hb; clear hb; (try simp at hz); (first | ((refine HS.g5 (m := w'.heap.size) ?_ ?_); (focus omega); intro HS) | ((refine HS.g4 (m := w'.heap.size) ?_ ?_); (focus omega); intro HS) | ((refine HS.g3 (m := w'.heap.size) ?_ ?_); (focus omega); intro HS) | ((refine HS.g2 (m := w'.heap.size) ?_ ?_); (focus omega); intro HS) | ((refine HS.g1 (m := w'.heap.size) ?_ ?_); (focus omega); intro HS) | ((refine HS.g0 (m := w'.heap.size) ?_ ?_); (focus omega); intro HS)); have HU := HS; simp only [AllLt] at HU) | fail)
  all_goals
    go_wp2
    refine bodyPost_ret (by simp [results, Tryd.results115, go_sem, *]; try rfl) rfl ?_
    exact ⟨rfl, by (repeat' (first | (with_reducible exact Below.refl _ _) | (with_reducible refine Below.setCell ?_ ?_ _) | (with_reducible refine below_drewN' ?_ _) | (with_reducible refine below_drew' ?_) | (with_reducible refine Below.alloc ?_ ?_ _) | (with_reducible assumption) | go_size))⟩
end Go.Proofs.YtlmmjdaipedjjaaDoor.C
