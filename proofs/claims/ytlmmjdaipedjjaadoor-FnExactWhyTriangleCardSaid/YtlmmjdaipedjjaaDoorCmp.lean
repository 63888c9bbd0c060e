/- Composition, by the ends of a third interval: the program's walks. -/
import Derived.Test.YtlmmjdaipedjjaaDoorRel
import Derived.Test.YtlmmjdaipedjjaaDoorCmpP
import Derived.StillTailTactics
namespace Go.Proofs.YtlmmjdaipedjjaaDoor.C
open Go.RowKit
set_option linter.unusedVariables false
set_option linter.unusedSimpArgs false
theorem lt5 (n : Nat) : n < n + 1 + 1 + 1 + 1 + 1 := by omega
theorem lt6 (n : Nat) : n < n + 1 + 1 + 1 + 1 + 1 + 1 := by omega
theorem lt7 (n : Nat) : n < n + 1 + 1 + 1 + 1 + 1 + 1 + 1 := by omega
theorem ne1 (n : Nat) : ¬ n + 1 = n := by omega
theorem ne1' (n : Nat) : ¬ n = n + 1 := by omega
theorem ne2 (n : Nat) : ¬ n + 1 + 1 = n := by omega
theorem ne2' (n : Nat) : ¬ n = n + 1 + 1 := by omega
theorem ne3 (n : Nat) : ¬ n + 1 + 1 + 1 = n := by omega
theorem ne3' (n : Nat) : ¬ n = n + 1 + 1 + 1 := by omega
theorem ne4 (n : Nat) : ¬ n + 1 + 1 + 1 + 1 = n := by omega
theorem ne4' (n : Nat) : ¬ n = n + 1 + 1 + 1 + 1 := by omega
theorem ie0 (a b c d : Int) (w : World) : (Instr.index 155 (.agg #[.int .i64 a, .int .i64 b, .int .i64 c, .int .i64 d]) (.int .i64 0)).run Tryd.prog w = .ok (.int .i64 a) w := by kernel_rfl
theorem ie1 (a b c d : Int) (w : World) : (Instr.index 155 (.agg #[.int .i64 a, .int .i64 b, .int .i64 c, .int .i64 d]) (.int .i64 1)).run Tryd.prog w = .ok (.int .i64 b) w := by kernel_rfl
theorem ie2 (a b c d : Int) (w : World) : (Instr.index 155 (.agg #[.int .i64 a, .int .i64 b, .int .i64 c, .int .i64 d]) (.int .i64 2)).run Tryd.prog w = .ok (.int .i64 c) w := by kernel_rfl
theorem ie3 (a b c d : Int) (w : World) : (Instr.index 155 (.agg #[.int .i64 a, .int .i64 b, .int .i64 c, .int .i64 d]) (.int .i64 3)).run Tryd.prog w = .ok (.int .i64 d) w := by kernel_rfl
set_option maxHeartbeats 2000000 in
set_option maxRecDepth 100000 in
theorem esets_any (a b c d : Int) (w : World) (ha : Ord a) (hb : Ord b) (hc : Ord c) (hd : Ord d) :
    Calls Tryd.prog 157 #[.agg #[.int .i64 a, .int .i64 b, .int .i64 c, .int .i64 d]] w fun e w' => e = .returned (.agg #[.int .i64 a, .int .i64 b, .int .i64 c, .int .i64 d]) ∧ Below w.heap.size w w' := by
  have i0 := ie0
  have i1 := ie1
  have i2 := ie2
  have i3 := ie3
  have hn5 := lt5
  have hn6 := lt6
  have hn7 := lt7
  have m2 := ne2
  have m2' := ne2'
  have m3 := ne3
  have m3' := ne3'
  have m4 := ne4
  have m4' := ne4'
  have HS := AllLt.start w; have hn2 := lt2; have hn3 := lt3; have hn4 := lt4; go_enter Tryd.func157, Tryd.ntmps157
  go_wp2
  refine wp_loop_rounds 5 ?_
  iterate 5
    rw [rounds_succ]
    go_wp2_with (first | (go_at_call 167; (with_reducible refine (ordersOf_new _ _ _ _ (by simp) (by assumption)).mono ?_); rintro e w' ⟨rfl, rfl⟩))
  refine bodyPost_ret (by simp [results, Tryd.results157, go_sem, *]; try rfl) rfl ?_
  exact ⟨rfl, by (repeat' (first | (with_reducible exact Below.refl _ _) | (with_reducible refine Below.setCell ?_ ?_ _) | (with_reducible refine below_drewN' ?_ _) | (with_reducible refine below_drew' ?_) | (with_reducible refine Below.alloc ?_ ?_ _) | (with_reducible assumption) | go_size))⟩
end Go.Proofs.YtlmmjdaipedjjaaDoor.C
