/- The program's networks: free ones. The program's edges of a network. The program's check of a network. -/
import Derived.Test.YtmdgkhebefnfeaaDoorNetV
import Derived.Test.YtmdgkhebefnfeaaDoorNetG
import Derived.Test.YtmdgkhebefnfeaaDoorNetE
import Derived.OwnWalk
import Derived.Laws.AppendOwn
import Derived.Deep.RegionHeld3
namespace Go.Proofs.YtmdgkhebefnfeaaDoor.C
section
open Go.RowKit
set_option linter.unusedVariables false
set_option linter.unusedSimpArgs false
/-- The relation of an edge, as the walk reads it. -/
theorem fld1 (a b c : Value) (w : World) : (Instr.field 103 (.agg #[a, b, c]) 1).run Tryd.prog w = .ok b w := by kernel_rfl
set_option maxHeartbeats 1000000 in
theorem edge_any (n : Nat) (M : Nat → Nat → Nat) (i k : Nat) (hi : i < 6) (hk : k < 6) (w : World) :
    Calls Tryd.prog 158 #[.agg (netV n M), .int .i64 i, .int .i64 k] w fun e w' => e = .returned (.agg #[.int .i64 i, .int .i64 ((M i k : Nat) : Int), .int .i64 k]) ∧ Below w.heap.size w w' := by
  have hc := netV_at n M hi hk
  have HS := AllLt.start w; go_enter Tryd.func158, Tryd.ntmps158
  go_wp2
  refine bodyPost_ret (by simp [results, Tryd.results158, go_sem, *]; try rfl) rfl ?_
  exact ⟨rfl, by (repeat' (first | (with_reducible exact Below.refl _ _) | (with_reducible refine Below.setCell ?_ ?_ _) | (with_reducible refine below_drewN' ?_ _) | (with_reducible refine below_drew' ?_) | (with_reducible refine Below.alloc ?_ ?_ _) | (with_reducible assumption) | go_size))⟩
set_option maxHeartbeats 1000000 in
set_option maxRecDepth 100000 in
theorem free_off (z : Int) (hz : ¬ (1 ≤ z ∧ z ≤ 6)) (w : World) :
    Calls Tryd.prog 81 #[.int .i64 z] w fun e w' => e = .returned (.tuple #[.agg (netV 0 fun _ _ => 0), .bool false]) ∧ Below w.heap.size w w' := by
  have h : z < 1 ∨ 1 ≤ z ∧ 6 < z := by omega
  rcases h with h | ⟨h, h'⟩
  all_goals
    have HS := AllLt.start w; go_enter Tryd.func81, Tryd.ntmps81
    go_wp2_with (first | refine al_net rfl rfl ?_ | refine bu_net rfl rfl ?_ | refine st_net rfl _ _ rfl rfl rfl (NB.made _ _ _) ?_)
    refine bodyPost_ret (res_net2 rfl _ _ _ _ _ rfl rfl (NB.row (NB.made _ _ _) _ _)) rfl ?_
    exact ⟨rfl, below_setRow ((Below.refl _ _).alloc (Nat.le_refl _) _) (Nat.le_refl _) _⟩
/-- the free network under way -/
def freW (n i k : Nat) : Nat → Nat → Nat := fun a b => if a < i then freR n a b else if a = i ∧ b < k then 8191 else 0
theorem freW_start (n : Nat) : freW n 0 0 = fun _ _ => 0 := by
  funext a b; simp [freW]
theorem freW_one (n i k : Nat) : upd (freW n i k) i k 8191 = freW n i (k + 1) := by
  funext a b
  unfold upd freW
  by_cases e : a = i
  · subst e
    by_cases f : b = k
    · subst f; simp
    · have h1 : (b < k + 1) = (b < k) := by simp; omega
      simp [f, h1]
  · simp [e]
theorem freW_row {n i : Nat} (hi : i < n) : upd (freW n i n) i i 64 = freW n (i + 1) 0 := by
  funext a b
  unfold upd freW
  by_cases e : a = i
  · subst e
    by_cases f : b = a
    · subst f; simp [freR_one hi]
    · by_cases g : b < n
      · rw [if_neg (fun h => f h.2), if_neg (by omega), if_pos ⟨rfl, g⟩, if_pos (by omega), freR_all hi g (fun h => f h.symm)]
      · rw [if_neg (fun h => f h.2), if_neg (by omega), if_neg (fun h => g h.2), if_pos (by omega), freR_off (fun h => g h.2)]
  · rw [if_neg (fun h => e h.1)]
    by_cases l : a < i
    · rw [if_pos l, if_pos (by omega)]
    · rw [if_neg l, if_neg (fun h => e h.1), if_neg (by omega), if_neg (fun h => by omega)]
theorem freW_end (n : Nat) : freW n n 0 = freR n := by
  funext a b
  unfold freW
  by_cases l : a < n
  · rw [if_pos l]
  · rw [if_neg l, if_neg (fun h => by omega), freR_off (fun h => l h.1)]
set_option maxHeartbeats 4000000 in
set_option maxRecDepth 100000 in
theorem free_on (n : Nat) (h1 : 1 ≤ n) (h6 : n ≤ 6) (w : World) :
    Calls Tryd.prog 81 #[.int .i64 n] w fun e w' => e = .returned (.tuple #[.agg (netV n (freR n)), .bool true]) ∧ Below w.heap.size w w' := by
  have g1 : decide ((n : Int) < 1) = false := by simp; omega
  have g6 : decide ((6 : Int) < (n : Int)) = false := by simp; omega
  have HS := AllLt.start w; go_enter Tryd.func81, Tryd.ntmps81
  go_wp2_with (first | refine al_net rfl rfl ?_ | refine bu_net1 rfl _ rfl n rfl ?_ | refine st_net rfl _ _ rfl rfl rfl (NB.made _ _ _) ?_)
  have HN0 := hid (((NB.made (w.alloc (.cells (netV 0 fun _ _ => 0) 86)) 0 fun _ _ => 0).row n fun _ _ => 0).congr (freW_start n).symm)
  have HR0 := hid ((((NB.made w 0 fun _ _ => 0).alloc (.cells (netV 0 fun _ _ => 0) 86))).rowFar (b := w.heap.size + 1) (by omega) (netV n fun _ _ => 0))
  have HB0 := hid (below_setRow (((Below.refl w.heap.size w).alloc (Nat.le_refl _) (.cells (netV 0 fun _ _ => 0) 86)).alloc (by simp) (.cells (netV 0 fun _ _ => 0) 86)) (show w.heap.size ≤ w.heap.size + 1 by omega) (netV n fun _ _ => 0))
  rw [World.size_alloc] at HN0
  trace_state
  go_loopw [18] (fun v wr => ∃ i : Nat, i ≤ n ∧ v = .int .i64 i ∧ Hid (NB wr (w.heap.size + 1) n (freW n i 0)) ∧ Hid (NB wr w.heap.size 0 fun _ _ => 0) ∧ Hid (Below w.heap.size w wr)) (fun v _ => n - (intOf v).toNat)
  case atStart => exact ⟨0, by omega, rfl, HN0, HR0, HB0⟩
  case round =>
    obtain ⟨i, hi, rfl, HN, HR, HB⟩ := hrel
    clear HS HN0 HR0 HB0
    by_cases hin : i < n
    · have hdi : decide ((i : Int) < (n : Int)) = true := by simp; omega
      go_wp2
      go_loopw [22] (fun v wr => ∃ k : Nat, k ≤ n ∧ v = .int .i64 k ∧ Hid (NB wr (w.heap.size + 1) n (freW n i k)) ∧ Hid (NB wr w.heap.size 0 fun _ _ => 0) ∧ Hid (Below w.heap.size w wr)) (fun v _ => n - (intOf v).toNat)
      case atStart => exact ⟨0, by omega, rfl, HN, HR, HB⟩
      case round =>
        obtain ⟨k, hk, rfl, HN2, HR2, HB2⟩ := hrel
        obtain ⟨wi, rfl⟩ : ∃ wi : World, wi = wr := ⟨_, rfl⟩
        by_cases hkn : k < n
        · have hdk : decide ((k : Int) < (n : Int)) = true := by simp; omega
          have i6 : i < 6 := by omega
          have k6 : k < 6 := by omega
          have hc := HN2.out.cell i6 k6
          have hf := HN2.out.frozen (1 + i * 6 + k)
          have HN3 := hid ((HN2.out.set 8191 i6 k6).congr (freW_one n i k))
          have HR3 := hid (HR2.out.far (p := ⟨w.heap.size + 1, 1 + i * 6 + k, none⟩) (by simp) (.int .i64 ((8191 : Nat) : Int)))
          have HB3 := hid (HB2.out.setCell (p := ⟨w.heap.size + 1, 1 + i * 6 + k, none⟩) (by simp) (.int .i64 ((8191 : Nat) : Int)))
          go_wp2
          go_roundw
          case rel => exact ⟨k + 1, by omega, by go_num, HN3, HR3, HB3⟩
          case measure => simp [intOf]; omega
        · obtain rfl : k = n := by omega
          have hdk : decide ((k : Int) < (k : Int)) = false := by simp
          have i6 : i < 6 := by omega
          have hc := HN2.out.cell i6 i6
          have hf := HN2.out.frozen (1 + i * 6 + i)
          have HN3 := hid ((HN2.out.set 64 i6 i6).congr (freW_row hin))
          have HR3 := hid (HR2.out.far (p := ⟨w.heap.size + 1, 1 + i * 6 + i, none⟩) (by simp) (.int .i64 ((64 : Nat) : Int)))
          have HB3 := hid (HB2.out.setCell (p := ⟨w.heap.size + 1, 1 + i * 6 + i, none⟩) (by simp) (.int .i64 ((64 : Nat) : Int)))
          go_wp2
          go_roundw
          case rel => exact ⟨i + 1, by omega, by go_num, HN3, HR3, HB3⟩
          case measure => simp [intOf]; omega
    · obtain rfl : i = n := by omega
      have hdi : decide ((i : Int) < (i : Int)) = false := by simp
      have HN3 := hid (HN.out.congr (freW_end i))
      have HR3 := HR.out
      go_wp2_with (first | refine ld_net rfl _ rfl rfl HN3.out ?_ | refine st_net rfl _ _ rfl rfl rfl HR3 ?_)
      refine bodyPost_ret (res_net2 rfl _ _ _ _ _ rfl rfl (NB.row HR3 _ _)) rfl ?_
      exact ⟨rfl, below_setRow HB.out (Nat.le_refl _) _⟩
end
section
open Go.RowKit
set_option linter.unusedVariables false
set_option linter.unusedSimpArgs false
theorem own_below' {w w' : World} {base e size n : Nat} {v : Value} {xs : List Value} (h : w.ownsRow base e size v n xs) (hb : Below w.heap.size w w') : w'.ownsRow base e size v n xs :=
  h.kept (row := none) ⟨hb.os, hb.tape, hb.output, hb.size, fun k hk _ => hb.block k hk⟩ (by cases hv : v.ownBlock <;> simp)
/-- the cells of edges -/
def edC (M : Nat → Nat → Nat) (l : List (Nat × Nat)) : List Value := l.flatMap fun p => [.int .i64 (p.1 : Int), .int .i64 ((M p.1 p.2 : Nat) : Int), .int .i64 (p.2 : Int)]
theorem edC_snoc (M : Nat → Nat → Nat) (l : List (Nat × Nat)) (i k : Nat) : edC M (l ++ [(i, k)]) = edC M l ++ [.int .i64 (i : Int), .int .i64 ((M i k : Nat) : Int), .int .i64 (k : Int)] := by simp [edC]
theorem edC_len (M : Nat → Nat → Nat) : ∀ l : List (Nat × Nat), (edC M l).length = l.length * 3
  | [] => rfl
  | p :: l => by
    have := edC_len M l
    simp only [edC, List.flatMap_cons, List.length_append, List.length_cons] at *
    simp only [List.length_nil]
    omega
theorem edC_at (M : Nat → Nat → Nat) : ∀ (l : List (Nat × Nat)) (j : Nat), j < l.length → (edC M l)[3 * j]? = some (.int .i64 ((l.getD j (0, 0)).1 : Int)) ∧ (edC M l)[3 * j + 1]? = some (.int .i64 ((M (l.getD j (0, 0)).1 (l.getD j (0, 0)).2 : Nat) : Int)) ∧ (edC M l)[3 * j + 2]? = some (.int .i64 ((l.getD j (0, 0)).2 : Int))
  | [], j, h => by simp at h
  | p :: l, 0, _ => by simp [edC]
  | p :: l, j + 1, h => by
    have := edC_at M l j (by simpa using h)
    rw [show 3 * (j + 1) = 3 * j + 3 by omega]
    simpa [edC] using this
theorem edInfo : (Tryd.prog.info? 103).map (fun i => (i.zero, i.size, i.bytes)) = some (some (.agg #[.int .i64 0, .int .i64 0, .int .i64 0]), 3, 24) := by kernel_rfl
set_option maxHeartbeats 4000000 in
set_option maxRecDepth 100000 in
theorem edges_any (n : Nat) (h6 : n ≤ 6) (M : Nat → Nat → Nat) (w : World) :
    Calls Tryd.prog 121 #[.agg (netV n M)] w fun e w' => (∃ v, e = .returned v ∧ w'.ownsRow (w.heap.size + 1) 103 3 v (edL n).length (edC M (edL n))) ∧ Below w.heap.size w w' := by
  obtain ⟨i0, hi0, hz0, hz1, hz2⟩ := info_parts edInfo
  have HN0 := hid (NB.made w n M)
  have hc0 := HN0.out.cell0
  have HS := AllLt.start w; go_enter Tryd.func121, Tryd.ntmps121
  go_wp2_with fail
  go_loopw [3, 9] (fun v a wr => ∃ i : Nat, i ≤ n ∧ a = .int .i64 i ∧ Hid (wr.ownsRow (w.heap.size + 1) 103 3 v (edF n i).length (edC M (edF n i))) ∧ Hid (NB wr w.heap.size n M) ∧ Hid (Below (w.heap.size + 1) (w.alloc (.cells (netV n M) 86)) wr)) (fun _ a _ => n - (intOf a).toNat)
  case atStart => exact ⟨0, by omega, rfl, hid (World.ownsRow_nil _ _ _ _), HN0, hid (Below.refl _ _)⟩
  case round =>
    obtain ⟨i, hi, rfl, HO, HN, HB⟩ := hrel
    clear HS HN0 hc0
    by_cases hin : i < n
    · have hdi : decide ((i : Int) < (n : Int)) = true := by simp; omega
      have hcn := HN.out.cell0
      go_wp2_with fail
      clear hcn
      go_loopw [3, 5] (fun v a wr => ∃ m : Nat, i + 1 ≤ m ∧ m ≤ n ∧ a = .int .i64 m ∧ Hid (wr.ownsRow (w.heap.size + 1) 103 3 v (edF n i ++ edI i (m - i - 1)).length (edC M (edF n i ++ edI i (m - i - 1)))) ∧ Hid (NB wr w.heap.size n M) ∧ Hid (Below (w.heap.size + 1) (w.alloc (.cells (netV n M) 86)) wr)) (fun _ a _ => n - (intOf a).toNat)
      case atStart => exact ⟨i + 1, by omega, by omega, by go_num, by rw [show i + 1 - i - 1 = 0 by omega]; simpa [edI] using HO, HN, HB⟩
      case round =>
        obtain ⟨m, hm, hmn, rfl, HO2, HN2, HB2⟩ := hrel
        (try clear HO HN HB)
        obtain ⟨wi, rfl⟩ : ∃ wi : World, wi = wr := ⟨_, rfl⟩
        have hcn := HN2.out.cell0
        by_cases hkn : m < n
        · have hdk : decide ((m : Int) < (n : Int)) = true := by simp; omega
          have hlen : (edF n i ++ edI i (m - i - 1)).length ≤ 30 := by
            have := edF_len h6 (show i ≤ n by omega)
            rw [List.length_append, edI_len]; omega
          go_wp2_with (refine ld_net rfl _ rfl rfl HN2.out ?_)
          (with_reducible refine (edge_any n M i m (by omega) (by omega) _).mono ?_)
          rintro e w2 ⟨rfl, hb⟩
          have HO3 := hid (own_below' HO2.out hb)
          have HN3 := hid (HN2.out.below' hb)
          have HB3 := hid (HB2.out.trans (hb.mono (by have := HB2.out.size; simpa using this)))
          have hbase : Hid (w.heap.size + 1 ≤ w2.heap.size) := hid (by have := HB3.out.size; simpa using this)
          clear hcn hb HO2 HN2 HB2
          go_wp2_with (at_builtin; refine wpList_append_own _ rfl _ _ 152 rfl (w.heap.size + 1) 103 i0 _ 3 24 Tryd.underlying152 hi0 hz0 hz1 hz2 rfl (by decide) _ _ _ rfl (HO3.out.alloc _) ⟨w2.heap.size, 0, none⟩ 1 1 [.int .i64 i, .int .i64 ((M i m : Nat) : Int), .int .i64 m] rfl rfl ?c1 ?c2 ?c3 ?c4 ?c5 ?_)
          case c1 =>
            intro j u hj
            match j, hj with
            | 0, hj => simp at hj; subst hj; simp [Addr.add]
            | 1, hj => simp at hj; subst hj; simp [Addr.add]
            | 2, hj => simp at hj; subst hj; simp [Addr.add]
          case c2 => intro u hu; simp at hu; rcases hu with rfl | rfl | rfl <;> rfl
          case c3 => unfold maxLen; omega
          case c4 => omega
          case c5 => have := hbase.out; simp; omega
          intro v' w3 hown' hgrow _
          have HB4 := hid ((HB3.out.alloc (by have := hbase.out; omega) _).grown hgrow (by have := hbase.out; simp; omega) (fun j hj => (HO3.out.lt j hj).1))
          have HN4 := hid (show NB w3 w.heap.size n M from (hgrow.block _ (by have := hbase.out; simp; omega) (fun e => by have := (HO3.out.lt _ e.symm).1; omega)).trans (HN3.out.alloc _))
          have HO4 : Hid (w3.ownsRow (w.heap.size + 1) 103 3 v' (edF n i ++ edI i (m + 1 - i - 1)).length (edC M (edF n i ++ edI i (m + 1 - i - 1)))) := hid (by
            have e0 : edI i (m + 1 - i - 1) = edI i (m - i - 1) ++ [(i, m)] := by rw [show m + 1 - i - 1 = (m - i - 1) + 1 by omega, edI_succ, show i + 1 + (m - i - 1) = m by omega]
            have e1 : (edF n i ++ edI i (m + 1 - i - 1)).length = (edF n i ++ edI i (m - i - 1)).length + 1 := by rw [e0, ← List.append_assoc, List.length_append]; rfl
            rw [e1, e0, ← List.append_assoc, edC_snoc, List.length_append]
            exact hown')
          clear hown' hgrow
          go_wp2
          go_roundw
          case rel => exact ⟨m + 1, by omega, by omega, by go_num, HO4, HN4, HB4⟩
          case measure => simp [intOf]; omega
        · obtain rfl : m = n := by omega
          have hdk : decide ((m : Int) < (m : Int)) = false := by simp
          have HO4 : Hid (wi.ownsRow (w.heap.size + 1) 103 3 u3 (edF m (i + 1)).length (edC M (edF m (i + 1)))) := hid (by
            show wi.ownsRow _ _ _ _ (edF m i ++ edI i (m - 1 - i)).length (edC M (edF m i ++ edI i (m - 1 - i)))
            rw [show m - 1 - i = m - i - 1 by omega]; exact HO2.out)
          go_wp2
          go_roundw
          case rel => exact ⟨i + 1, by omega, by go_num, HO4, HN2, HB2⟩
          case measure => simp [intOf]; omega
    · obtain rfl : i = n := by omega
      have hdi : decide ((i : Int) < (i : Int)) = false := by simp
      go_wp2
      go_ret
      exact ⟨⟨_, rfl, HO.out⟩, ((Below.refl _ _).alloc (Nat.le_refl _) _).trans (HB.out.mono (by omega))⟩
theorem rturned_any (n : Nat) (hn : n < 8192) (w : World) (hT : TB w) :
    Calls Tryd.prog 179 #[.int .i64 n] w fun e w' => e = .returned (.int .i64 ((turN n : Nat) : Int)) ∧ Below w.heap.size w w' := by
  have HT := hid hT
  clear hT
  have HS := AllLt.start w; go_enter Tryd.func179, Tryd.ntmps179
  go_wp2_with fail
  (with_reducible refine (changed_turned n hn _ HT.out).mono ?_)
  rintro e w' ⟨rfl, hb⟩
  go_wp2
  go_ret
  exact ⟨rfl, hb⟩
set_option maxHeartbeats 1000000 in
theorem eturn_any (i r k : Nat) (hr : r < 8192) (w : World) (hT : TB w) :
    Calls Tryd.prog 159 #[.agg #[.int .i64 i, .int .i64 r, .int .i64 k]] w fun e w' => e = .returned (.agg #[.int .i64 k, .int .i64 ((turN r : Nat) : Int), .int .i64 i]) ∧ Below w.heap.size w w' := by
  have HT := hid hT
  clear hT
  have HS := AllLt.start w; have hn2 := lt2; have hn3 := lt3; have hn4 := lt4; go_enter Tryd.func159, Tryd.ntmps159
  go_wp2_with fail
  go_region_held3 (fun w' => w'.cell? ⟨w.heap.size, 0, none⟩ = some (.int .i64 i) ∧ w'.cell? ⟨w.heap.size, 1, none⟩ = some (.int .i64 r) ∧ w'.cell? ⟨w.heap.size, 2, none⟩ = some (.int .i64 k)) (go_keep)
    (first | (go_at_call 179; (with_reducible refine (rturned_any r hr _ (HT.out.below (by go_grown))).mono ?_); rintro e w' ⟨rfl, hb⟩; obtain ⟨HB, hz0, hz, hc, hf⟩ := bst (w0 := w) (by go_grown) hb; clear hb; (try simp at hz); (first | ((refine HS.g5 (m := w'.heap.size) ?_ ?_); (focus omega); intro HS) | ((refine HS.g4 (m := w'.heap.size) ?_ ?_); (focus omega); intro HS) | ((refine HS.g3 (m := w'.heap.size) ?_ ?_); (focus omega); intro HS) | ((refine HS.g2 (m := w'.heap.size) ?_ ?_); (focus omega); intro HS) | ((refine HS.g1 (m := w'.heap.size) ?_ ?_); (focus omega); intro HS) | ((refine HS.g0 (m := w'.heap.size) ?_ ?_); (focus omega); intro HS)); have HU := HS; simp only [AllLt] at HU) | fail)
  all_goals
    go_wp2
    refine bodyPost_ret (by simp [results, Tryd.results159, go_sem, *]; try rfl) rfl ?_
    exact ⟨rfl, by (repeat' (first | (with_reducible exact Below.refl _ _) | (with_reducible refine Below.setCell ?_ ?_ _) | (with_reducible refine below_drewN' ?_ _) | (with_reducible refine below_drew' ?_) | (with_reducible refine Below.alloc ?_ ?_ _) | (with_reducible assumption) | go_size))⟩
end
section
open Go.RowKit
set_option linter.unusedVariables false
set_option linter.unusedSimpArgs false
theorem own_edge {M : Nat → Nat → Nat} {w : World} {base n g cap : Nat} {l : List (Nat × Nat)} {T : TypeId} (h : w.ownsRow base T 3 (.slice (some ⟨g, 0, none⟩) n cap) n (edC M l)) {j : Nat} (hj : j < l.length) :
    w.cell? ⟨g, j * 3, none⟩ = some (.int .i64 ((l.getD j (0, 0)).1 : Int)) ∧ w.cell? ⟨g, j * 3 + 1, none⟩ = some (.int .i64 ((M (l.getD j (0, 0)).1 (l.getD j (0, 0)).2 : Nat) : Int)) ∧ w.cell? ⟨g, j * 3 + 2, none⟩ = some (.int .i64 ((l.getD j (0, 0)).2 : Int)) := by
  obtain ⟨h1, h2, h3⟩ := edC_at M l j hj
  have ha : ∀ j, (⟨g, 0, none⟩ : Addr).add j = ⟨g, j, none⟩ := fun j => by unfold Addr.add; split <;> simp_all
  have c1 := h.cells (g := g) rfl _ _ h1
  have c2 := h.cells (g := g) rfl _ _ h2
  have c3 := h.cells (g := g) rfl _ _ h3
  rw [ha] at c1 c2 c3
  rw [show j * 3 = 3 * j by omega]
  exact ⟨c1, c2, c3⟩
/-- A slice of edges that reads as a list, wherever it lies. -/
def Es (w : World) (v : Value) (M : Nat → Nat → Nat) (l : List (Nat × Nat)) : Prop :=
  ∃ a cap, v = .slice a l.length cap ∧ ∀ j, j < l.length → ∃ g, a = some ⟨g, 0, none⟩ ∧ g < w.heap.size ∧ w.cell? ⟨g, j * 3, none⟩ = some (.int .i64 ((l.getD j (0, 0)).1 : Int)) ∧ w.cell? ⟨g, j * 3 + 1, none⟩ = some (.int .i64 ((M (l.getD j (0, 0)).1 (l.getD j (0, 0)).2 : Nat) : Int)) ∧ w.cell? ⟨g, j * 3 + 2, none⟩ = some (.int .i64 ((l.getD j (0, 0)).2 : Int))
theorem Es.of_own {w : World} {v : Value} {M : Nat → Nat → Nat} {l : List (Nat × Nat)} {base : Nat} {T : TypeId} (h : w.ownsRow base T 3 v l.length (edC M l)) : Es w v M l := by
  have h0 := h
  rcases h.2 with ⟨rfl, hn⟩ | ⟨g, cap, cur, rfl, hB, hg, h1, h2, h3, h4⟩
  · exact ⟨none, 0, by rw [hn], fun i hi => by omega⟩
  · exact ⟨_, cap, rfl, fun i hi => ⟨g, rfl, (Array.getElem?_eq_some_iff.1 hg).1, own_edge h0 hi⟩⟩
theorem new_cell3 (w : World) (x y z : Value) (t : TypeId) : (w.alloc (.cells #[x, y, z] t)).cell? ⟨w.heap.size, 0, none⟩ = some x ∧ (w.alloc (.cells #[x, y, z] t)).cell? ⟨w.heap.size, 1, none⟩ = some y ∧ (w.alloc (.cells #[x, y, z] t)).cell? ⟨w.heap.size, 2, none⟩ = some z := by simp [go_sem]
/-- what a network is asked: itself, and each edge from both nodes -/
def sndB (n : Nat) (M : Nat → Nat → Nat) : Bool := (List.range n).all (fun i => decide (M i i = 64)) && (edL n).all fun p => decide (M p.2 p.1 = turN (M p.1 p.2))
set_option maxHeartbeats 4000000 in
set_option maxRecDepth 100000 in
theorem isSound_any (n : Nat) (h6 : n ≤ 6) (M : Nat → Nat → Nat) (hM : ∀ i k, M i k < 8192) (w : World) (hT : TB w) :
    Calls Tryd.prog 119 #[.agg (netV n M)] w fun e w' => e = .returned (.bool (sndB n M)) ∧ Below w.heap.size w w' := by
  have HT := hid hT
  clear hT
  have HN0 := hid (NB.made w n M)
  have hc0 := HN0.out.cell0
  have hfd := fld1
  have HS := AllLt.start w; go_enter Tryd.func119, Tryd.ntmps119
  go_wp2_with fail
  go_loopw [9] (fun a wr => ∃ i : Nat, i ≤ n ∧ a = .int .i64 i ∧ Hid (∀ j, j < i → M j j = 64) ∧ Hid (NB wr w.heap.size n M) ∧ Hid (Below w.heap.size w wr)) (fun a _ => n - (intOf a).toNat)
  case atStart => exact ⟨0, by omega, rfl, hid (fun j hj => by omega), HN0, hid ((Below.refl _ _).alloc (Nat.le_refl _) _)⟩
  case round =>
    obtain ⟨i, hi, rfl, HF, HN, HB⟩ := hrel
    clear HS HN0 hc0
    obtain ⟨wi, rfl⟩ : ∃ wi : World, wi = wr := ⟨_, rfl⟩
    by_cases hin : i < n
    · have hdi : decide ((i : Int) < (n : Int)) = true := by simp; omega
      go_wp2_with (refine ld_net rfl _ rfl rfl HN.out ?_)
      (with_reducible refine (edge_any n M i i (by omega) (by omega) _).mono ?_)
      rintro e w2 ⟨rfl, hb⟩
      have HN2 := hid (HN.out.below' hb)
      have HB2 := hid (HB.out.trans (hb.mono HB.out.size))
      by_cases e : M i i = 64
      · have hq : (((M i i : Nat) : Int) != 64) = false := by rw [e]; rfl
        have HF2 := hid (show ∀ j, j < i + 1 → M j j = 64 from fun j hj => by
          by_cases ej : j = i
          · rw [ej]; exact e
          · exact HF.out j (by omega))
        clear e HF
        go_wp2
        go_roundw
        case rel => exact ⟨i + 1, by omega, by go_num, HF2, HN2, HB2⟩
        case measure => simp [intOf]; omega
      · have hq : (((M i i : Nat) : Int) != 64) = true := by rw [bne_iff_ne]; omega
        have HR := hid (show sndB n M = false by
          unfold sndB
          rw [Bool.and_eq_false_iff]
          left
          rw [List.all_eq_false]
          exact ⟨i, List.mem_range.2 hin, by simpa using e⟩)
        clear e HF
        go_wp2
        go_ret
        exact ⟨ret_bool HR.out.symm, HB2.out⟩
    · obtain rfl : i = n := by omega
      have hdi : decide ((i : Int) < (i : Int)) = false := by simp
      go_wp2_with (refine ld_net rfl _ rfl rfl HN.out ?_)
      (with_reducible refine (edges_any i h6 M _).mono ?_)
      rintro e w2 ⟨⟨v, rfl, hown⟩, hb⟩
      have HE := Es.of_own hown
      obtain ⟨a, cap, rfl, hE⟩ := HE
      have HE2 := hid hE
      have HN2 := hid (HN.out.below' hb)
      have HB2 := hid (HB.out.trans (hb.mono HB.out.size))
      have hl15 := edL_len h6
      clear hown hE hb
      go_wp2_with fail
      go_loopw [22] (fun a wr => ∃ j : Nat, j ≤ (edL i).length ∧ a = .int .i64 j ∧ Hid (∀ q, q < j → M ((edL i).getD q (0, 0)).2 ((edL i).getD q (0, 0)).1 = turN (M ((edL i).getD q (0, 0)).1 ((edL i).getD q (0, 0)).2)) ∧ Hid (NB wr w.heap.size i M) ∧ Hid (Below w2.heap.size w2 wr)) (fun a _ => (edL i).length - (intOf a).toNat)
      case atStart => exact ⟨0, by omega, rfl, hid (fun j hj => by omega), HN2, hid (Below.refl _ _)⟩
      case round =>
        obtain ⟨j, hj, rfl, HG, HN3, HB3⟩ := hrel
        obtain ⟨wj, rfl⟩ : ∃ wj : World, wj = wr := ⟨_, rfl⟩
        by_cases hjl : j < (edL i).length
        · have hdj : decide ((j : Int) < ((edL i).length : Int)) = true := by simp; omega
          have hdk : decide (j < (edL i).length) = true := by simp; omega
          obtain ⟨g, rfl, hg, c0, c1, c2⟩ := HE2.out j hjl
          have HAT := hid (edL_at hjl)
          have HG2 := hid (show ∀ q, M ((edL i).getD j (0, 0)).2 ((edL i).getD j (0, 0)).1 = turN (M ((edL i).getD j (0, 0)).1 ((edL i).getD j (0, 0)).2) → q < j + 1 → M ((edL i).getD q (0, 0)).2 ((edL i).getD q (0, 0)).1 = turN (M ((edL i).getD q (0, 0)).1 ((edL i).getD q (0, 0)).2) from fun q h hq => by
            by_cases eq : q = j
            · rw [eq]; exact h
            · exact HG.out q (by omega))
          generalize (edL i).getD j (0, 0) = p at *
          obtain ⟨x, y⟩ := p
          obtain ⟨hxy, hyi⟩ := HAT.out
          simp only at c0 c1 c2 hxy hyi HG2
          have d0 : wj.cell? ⟨g, j * 3, none⟩ = some (.int .i64 (x : Int)) := by rw [HB3.out.cell (p := ⟨g, j * 3, none⟩) hg]; exact c0
          have d1 : wj.cell? ⟨g, j * 3 + 1, none⟩ = some (.int .i64 ((M x y : Nat) : Int)) := by rw [HB3.out.cell (p := ⟨g, j * 3 + 1, none⟩) hg]; exact c1
          have d2 : wj.cell? ⟨g, j * 3 + 2, none⟩ = some (.int .i64 (y : Int)) := by rw [HB3.out.cell (p := ⟨g, j * 3 + 2, none⟩) hg]; exact c2
          clear c0 c1 c2
          go_wp2_with fail
          have n64 := HN3.out.lt
          have HNa := hid (HN3.out.alloc (.cells #[.int .i64 x, .int .i64 ((M x y : Nat) : Int), .int .i64 y] 103))
          have HBa := hid (((Below.refl wj.heap.size wj).alloc (Nat.le_refl _) (.cells #[.int .i64 x, .int .i64 ((M x y : Nat) : Int), .int .i64 y] 103)))
          have HTa := hid (HT.out.below ((HB2.out.trans (HB3.out.mono HB2.out.size)).trans (HBa.out.mono (by have := HB3.out.size; have := HB2.out.size; omega))))
          have e0 := new_cell3 wj (.int .i64 x) (.int .i64 ((M x y : Nat) : Int)) (.int .i64 y) 103
          have hzz : wj.heap.size < (wj.alloc (.cells #[.int .i64 x, .int .i64 ((M x y : Nat) : Int), .int .i64 y] 103)).heap.size := by simp
          generalize hwa : wj.alloc (.cells #[.int .i64 x, .int .i64 ((M x y : Nat) : Int), .int .i64 y] 103) = wa at *
          obtain ⟨e0, e1, e2⟩ := e0
          have HNc := NB.run HNa.out
          by_cases e : M y x = turN (M x y)
          · have hq1 : (((M y x : Nat) : Int) == ((turN (M x y) : Nat) : Int)) = true := by rw [e]; simp
            have HG3 := hid (fun q hq => HG2.out q e hq)
            clear e
            go_region_held3 (fun wx => ((do let b ← isAgg 86; Next.value <$> (if b = true then (do let k ← sizeOf 86; Value.agg <$> loadCellsFrom ⟨w.heap.size, 0, none⟩ 0 k #[]) else Go.load ⟨w.heap.size, 0, none⟩) : Sem Next)).run Tryd.prog wx = .ok (.value (.agg (netV i M))) wx ∧ wx.cell? ⟨wj.heap.size, 0, none⟩ = some (.int .i64 x) ∧ wx.cell? ⟨wj.heap.size, 1, none⟩ = some (.int .i64 ((M x y : Nat) : Int)) ∧ wx.cell? ⟨wj.heap.size, 2, none⟩ = some (.int .i64 y)) (first | exact ⟨NB.run (show NB wa.drew _ _ _ from HNa.out), e0, e1, e2⟩ | exact ⟨NB.run (HNa.out.below' HX), by rw [HX.cell (p := ⟨wj.heap.size, 0, none⟩) hzz]; exact e0, by rw [HX.cell (p := ⟨wj.heap.size, 1, none⟩) hzz]; exact e1, by rw [HX.cell (p := ⟨wj.heap.size, 2, none⟩) hzz]; exact e2⟩)
              (first | (go_at_call 158; (with_reducible refine (edge_any i M y x (by omega) (by omega) _).mono ?_); rintro e w' ⟨rfl, hb⟩; obtain ⟨HX, hz0, hz, hc, hf⟩ := bst (w0 := wa) (by go_grown) hb; clear hb hf hc hz hz0) | (go_at_call 159; (with_reducible refine (eturn_any x (M x y) y (hM _ _) _ (HTa.out.below (by go_grown))).mono ?_); rintro e w' ⟨rfl, hb⟩; obtain ⟨HX, hz0, hz, hc, hf⟩ := bst (w0 := wa) (by go_grown) hb; clear hb hf hc hz hz0) | fail)
            all_goals
              go_wp2
              have HBy := hid (HX.mono (show wj.heap.size ≤ wa.heap.size from HBa.out.size))
              have HBz := hid (HB3.out.trans (Below.mono (HBa.out.trans HBy.out) HB3.out.size))
              go_roundw
              case rel => exact ⟨j + 1, by omega, by go_num, HG3, hid (HNa.out.below' HX), HBz⟩
              case measure => simp [intOf]; omega
          · have hq1 : (((M y x : Nat) : Int) == ((turN (M x y) : Nat) : Int)) = false := by rw [beq_eq_false_iff_ne]; omega
            have HR := hid (show sndB i M = false by
              unfold sndB
              rw [Bool.and_eq_false_iff]
              right
              rw [List.all_eq_false]
              exact ⟨(x, y), edL_mem.2 ⟨hxy, hyi⟩, by simpa using e⟩)
            clear e
            go_region_held3 (fun wx => ((do let b ← isAgg 86; Next.value <$> (if b = true then (do let k ← sizeOf 86; Value.agg <$> loadCellsFrom ⟨w.heap.size, 0, none⟩ 0 k #[]) else Go.load ⟨w.heap.size, 0, none⟩) : Sem Next)).run Tryd.prog wx = .ok (.value (.agg (netV i M))) wx ∧ wx.cell? ⟨wj.heap.size, 0, none⟩ = some (.int .i64 x) ∧ wx.cell? ⟨wj.heap.size, 1, none⟩ = some (.int .i64 ((M x y : Nat) : Int)) ∧ wx.cell? ⟨wj.heap.size, 2, none⟩ = some (.int .i64 y)) (first | exact ⟨NB.run (show NB wa.drew _ _ _ from HNa.out), e0, e1, e2⟩ | exact ⟨NB.run (HNa.out.below' HX), by rw [HX.cell (p := ⟨wj.heap.size, 0, none⟩) hzz]; exact e0, by rw [HX.cell (p := ⟨wj.heap.size, 1, none⟩) hzz]; exact e1, by rw [HX.cell (p := ⟨wj.heap.size, 2, none⟩) hzz]; exact e2⟩)
              (first | (go_at_call 158; (with_reducible refine (edge_any i M y x (by omega) (by omega) _).mono ?_); rintro e w' ⟨rfl, hb⟩; obtain ⟨HX, hz0, hz, hc, hf⟩ := bst (w0 := wa) (by go_grown) hb; clear hb hf hc hz hz0) | (go_at_call 159; (with_reducible refine (eturn_any x (M x y) y (hM _ _) _ (HTa.out.below (by go_grown))).mono ?_); rintro e w' ⟨rfl, hb⟩; obtain ⟨HX, hz0, hz, hc, hf⟩ := bst (w0 := wa) (by go_grown) hb; clear hb hf hc hz hz0) | fail)
            all_goals
              go_wp2
              have HBy := hid (HX.mono (show wj.heap.size ≤ wa.heap.size from HBa.out.size))
              have HBz := hid (HB3.out.trans (Below.mono (HBa.out.trans HBy.out) HB3.out.size))
              go_ret
              exact ⟨ret_bool HR.out.symm, HB2.out.trans (HBz.out.mono HB2.out.size)⟩
        · obtain rfl : j = (edL i).length := by omega
          have hdj : decide (((edL i).length : Int) < ((edL i).length : Int)) = false := by simp
          have HR := hid (show sndB i M = true by
            unfold sndB
            rw [Bool.and_eq_true]
            refine ⟨List.all_eq_true.2 fun q hq => decide_eq_true (HF.out q (List.mem_range.1 hq)), List.all_eq_true.2 fun p hp => decide_eq_true ?_⟩
            obtain ⟨q, hq, e⟩ := List.getElem_of_mem hp
            have := HG.out q hq
            rw [List.getD_eq_getElem?_getD, List.getElem?_eq_getElem hq, Option.getD_some, e] at this
            exact this)
          go_wp2
          go_ret
          exact ⟨ret_bool HR.out.symm, HB2.out.trans (HB3.out.mono HB2.out.size)⟩
end
end Go.Proofs.YtmdgkhebefnfeaaDoor.C
