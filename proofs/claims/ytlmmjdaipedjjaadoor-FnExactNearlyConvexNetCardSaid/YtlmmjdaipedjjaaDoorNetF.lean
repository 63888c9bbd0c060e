/- The program's networks: free ones. -/
import Derived.Test.YtlmmjdaipedjjaaDoorNetV
import Derived.Test.YtlmmjdaipedjjaaDoorNetD
namespace Go.Proofs.YtlmmjdaipedjjaaDoor.C
open Go.RowKit
set_option linter.unusedVariables false
set_option linter.unusedSimpArgs false
/-- The relation of an edge, as the walk reads it. -/
theorem fld1 (a b c : Value) (w : World) : (Instr.field 83 (.agg #[a, b, c]) 1).run Tryd.prog w = .ok b w := by kernel_rfl
set_option maxHeartbeats 1000000 in
theorem edge_any (n : Nat) (M : Nat → Nat → Nat) (i k : Nat) (hi : i < 6) (hk : k < 6) (w : World) :
    Calls Tryd.prog 72 #[.agg (netV n M), .int .i64 i, .int .i64 k] w fun e w' => e = .returned (.agg #[.int .i64 i, .int .i64 ((M i k : Nat) : Int), .int .i64 k]) ∧ Below w.heap.size w w' := by
  have hc := netV_at n M hi hk
  have HS := AllLt.start w; go_enter Tryd.func72, Tryd.ntmps72
  go_wp2
  refine bodyPost_ret (by simp [results, Tryd.results72, go_sem, *]; try rfl) rfl ?_
  exact ⟨rfl, by (repeat' (first | (with_reducible exact Below.refl _ _) | (with_reducible refine Below.setCell ?_ ?_ _) | (with_reducible refine below_drewN' ?_ _) | (with_reducible refine below_drew' ?_) | (with_reducible refine Below.alloc ?_ ?_ _) | (with_reducible assumption) | go_size))⟩
set_option maxHeartbeats 1000000 in
set_option maxRecDepth 100000 in
theorem free_off (z : Int) (hz : ¬ (1 ≤ z ∧ z ≤ 6)) (w : World) :
    Calls Tryd.prog 74 #[.int .i64 z] w fun e w' => e = .returned (.tuple #[.agg (netV 0 fun _ _ => 0), .bool false]) ∧ Below w.heap.size w w' := by
  have h : z < 1 ∨ 1 ≤ z ∧ 6 < z := by omega
  rcases h with h | ⟨h, h'⟩
  all_goals
    have HS := AllLt.start w; go_enter Tryd.func74, Tryd.ntmps74
    go_wp2_with (first | refine al_net rfl rfl ?_ | refine bu_net rfl rfl ?_ | refine st_net rfl _ _ rfl rfl rfl (NB.made _ _ _) ?_)
    refine bodyPost_ret (res_net2 rfl _ _ _ _ _ rfl rfl (NB.row (NB.made _ _ _) _ _)) rfl ?_
    exact ⟨rfl, below_setRow ((Below.refl _ _).alloc (Nat.le_refl _) _) (Nat.le_refl _) _⟩
/-- the free network under way -/
def freW (n i k : Nat) : Nat → Nat → Nat := fun a b => if a < i then freR n a b else if a = i ∧ b < k then 8191 else 0
theorem freW_start (n : Nat) : freW n 0 0 = fun _ _ => 0 := by
  funext a b; simp [freW]
theorem freW_one (n i k : Nat) : upd (freW n i k) i k 8191 = freW n i (k + 1) := by
  funext a b
  unfold upd freW
  by_cases e : a = i
  · subst e
    by_cases f : b = k
    · subst f; simp
    · have h1 : (b < k + 1) = (b < k) := by simp; omega
      simp [f, h1]
  · simp [e]
theorem freW_row {n i : Nat} (hi : i < n) : upd (freW n i n) i i 64 = freW n (i + 1) 0 := by
  funext a b
  unfold upd freW
  by_cases e : a = i
  · subst e
    by_cases f : b = a
    · subst f; simp [freR_one hi]
    · by_cases g : b < n
      · rw [if_neg (fun h => f h.2), if_neg (by omega), if_pos ⟨rfl, g⟩, if_pos (by omega), freR_all hi g (fun h => f h.symm)]
      · rw [if_neg (fun h => f h.2), if_neg (by omega), if_neg (fun h => g h.2), if_pos (by omega), freR_off (fun h => g h.2)]
  · rw [if_neg (fun h => e h.1)]
    by_cases l : a < i
    · rw [if_pos l, if_pos (by omega)]
    · rw [if_neg l, if_neg (fun h => e h.1), if_neg (by omega), if_neg (fun h => by omega)]
theorem freW_end (n : Nat) : freW n n 0 = freR n := by
  funext a b
  unfold freW
  by_cases l : a < n
  · rw [if_pos l]
  · rw [if_neg l, if_neg (fun h => by omega), freR_off (fun h => l h.1)]
set_option maxHeartbeats 4000000 in
set_option maxRecDepth 100000 in
theorem free_on (n : Nat) (h1 : 1 ≤ n) (h6 : n ≤ 6) (w : World) :
    Calls Tryd.prog 74 #[.int .i64 n] w fun e w' => e = .returned (.tuple #[.agg (netV n (freR n)), .bool true]) ∧ Below w.heap.size w w' := by
  have g1 : decide ((n : Int) < 1) = false := by simp; omega
  have g6 : decide ((6 : Int) < (n : Int)) = false := by simp; omega
  have HS := AllLt.start w; go_enter Tryd.func74, Tryd.ntmps74
  go_wp2_with (first | refine al_net rfl rfl ?_ | refine bu_net1 rfl _ rfl n rfl ?_ | refine st_net rfl _ _ rfl rfl rfl (NB.made _ _ _) ?_)
  have HN0 := hid (((NB.made (w.alloc (.cells (netV 0 fun _ _ => 0) 53)) 0 fun _ _ => 0).row n fun _ _ => 0).congr (freW_start n).symm)
  have HR0 := hid ((((NB.made w 0 fun _ _ => 0).alloc (.cells (netV 0 fun _ _ => 0) 53))).rowFar (b := w.heap.size + 1) (by omega) (netV n fun _ _ => 0))
  have HB0 := hid (below_setRow (((Below.refl w.heap.size w).alloc (Nat.le_refl _) (.cells (netV 0 fun _ _ => 0) 53)).alloc (by simp) (.cells (netV 0 fun _ _ => 0) 53)) (show w.heap.size ≤ w.heap.size + 1 by omega) (netV n fun _ _ => 0))
  rw [World.size_alloc] at HN0
  trace_state
  go_loopw [18] (fun v wr => ∃ i : Nat, i ≤ n ∧ v = .int .i64 i ∧ Hid (NB wr (w.heap.size + 1) n (freW n i 0)) ∧ Hid (NB wr w.heap.size 0 fun _ _ => 0) ∧ Hid (Below w.heap.size w wr)) (fun v _ => n - (intOf v).toNat)
  case atStart => exact ⟨0, by omega, rfl, HN0, HR0, HB0⟩
  case round =>
    obtain ⟨i, hi, rfl, HN, HR, HB⟩ := hrel
    clear HS HN0 HR0 HB0
    by_cases hin : i < n
    · have hdi : decide ((i : Int) < (n : Int)) = true := by simp; omega
      go_wp2
      go_loopw [22] (fun v wr => ∃ k : Nat, k ≤ n ∧ v = .int .i64 k ∧ Hid (NB wr (w.heap.size + 1) n (freW n i k)) ∧ Hid (NB wr w.heap.size 0 fun _ _ => 0) ∧ Hid (Below w.heap.size w wr)) (fun v _ => n - (intOf v).toNat)
      case atStart => exact ⟨0, by omega, rfl, HN, HR, HB⟩
      case round =>
        obtain ⟨k, hk, rfl, HN2, HR2, HB2⟩ := hrel
        obtain ⟨wi, rfl⟩ : ∃ wi : World, wi = wr := ⟨_, rfl⟩
        by_cases hkn : k < n
        · have hdk : decide ((k : Int) < (n : Int)) = true := by simp; omega
          have i6 : i < 6 := by omega
          have k6 : k < 6 := by omega
          have hc := HN2.out.cell i6 k6
          have hf := HN2.out.frozen (1 + i * 6 + k)
          have HN3 := hid ((HN2.out.set 8191 i6 k6).congr (freW_one n i k))
          have HR3 := hid (HR2.out.far (p := ⟨w.heap.size + 1, 1 + i * 6 + k, none⟩) (by simp) (.int .i64 ((8191 : Nat) : Int)))
          have HB3 := hid (HB2.out.setCell (p := ⟨w.heap.size + 1, 1 + i * 6 + k, none⟩) (by simp) (.int .i64 ((8191 : Nat) : Int)))
          go_wp2
          go_roundw
          case rel => exact ⟨k + 1, by omega, by go_num, HN3, HR3, HB3⟩
          case measure => simp [intOf]; omega
        · obtain rfl : k = n := by omega
          have hdk : decide ((k : Int) < (k : Int)) = false := by simp
          have i6 : i < 6 := by omega
          have hc := HN2.out.cell i6 i6
          have hf := HN2.out.frozen (1 + i * 6 + i)
          have HN3 := hid ((HN2.out.set 64 i6 i6).congr (freW_row hin))
          have HR3 := hid (HR2.out.far (p := ⟨w.heap.size + 1, 1 + i * 6 + i, none⟩) (by simp) (.int .i64 ((64 : Nat) : Int)))
          have HB3 := hid (HB2.out.setCell (p := ⟨w.heap.size + 1, 1 + i * 6 + i, none⟩) (by simp) (.int .i64 ((64 : Nat) : Int)))
          go_wp2
          go_roundw
          case rel => exact ⟨i + 1, by omega, by go_num, HN3, HR3, HB3⟩
          case measure => simp [intOf]; omega
    · obtain rfl : i = n := by omega
      have hdi : decide ((i : Int) < (i : Int)) = false := by simp
      have HN3 := hid (HN.out.congr (freW_end i))
      have HR3 := HR.out
      go_wp2_with (first | refine ld_net rfl _ rfl rfl HN3.out ?_ | refine st_net rfl _ _ rfl rfl rfl HR3 ?_)
      refine bodyPost_ret (res_net2 rfl _ _ _ _ _ rfl rfl (NB.row HR3 _ _)) rfl ?_
      exact ⟨rfl, below_setRow HB.out (Nat.le_refl _) _⟩
end Go.Proofs.YtlmmjdaipedjjaaDoor.C
