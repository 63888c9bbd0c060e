/- The program reads a network of a size that there is not. -/
import Derived.Test.YtlmmjdaipedjjaaDoorNetJ
import Derived.Deep.DeepCutAuto
namespace Go.Proofs.YtlmmjdaipedjjaaDoor.C
open Go.RowKit
set_option linter.unusedVariables false
set_option linter.unusedSimpArgs false
set_option maxHeartbeats 1000000 in
/-- A size that networks have not. -/
theorem networkOf_size (z : Int) (s : ByteArray) (hz : ¬ (1 ≤ z ∧ z ≤ 6)) (w : World) :
    Calls Tryd.prog 44 #[.agg #[.int .i64 z, .string s]] w fun e w' => e = .returned (.tuple #[.agg (netV 0 fun _ _ => 0), .bool false]) ∧ Below w.heap.size w w' := by
  have HF := hid (free_off z hz)
  clear hz
  have HS := AllLt.start w; go_enter Tryd.func44, Tryd.ntmps44
  go_wp2_with (refine al_net rfl rfl ?_)
  (with_reducible refine (HF.out _).mono ?_)
  rintro e w1 ⟨rfl, hb⟩
  have HO : Hid (NO w ((w1.alloc (.cells (netV 0 fun _ _ => 0) 53)).setRow w1.heap.size (netV 0 fun _ _ => 0)) z s w1.heap.size 0 fun _ _ => 0) := hid (NO.start (hb.mono (size2 w _ _)) 0 _)
  clear hb
  generalize hw2 : (w1.alloc (.cells (netV 0 fun _ _ => 0) 53)).setRow w1.heap.size (netV 0 fun _ _ => 0) = w2 at *
  have HR := HO.out.res
  go_upto_region 2 with (first | refine al_net rfl rfl ?_ | (refine st_net rfl _ _ rfl rfl rfl (NB.made w1 0 fun _ _ => 0) ?_; rw [hw2]))
  go_upto_region 3 with (fail)
  go_wp2_with (first | refine bu_net rfl rfl ?_ | refine st_net rfl _ _ rfl rfl rfl HR ?_)
  refine bodyPost_ret (res_net2 rfl _ _ _ _ _ rfl rfl (NB.row HR _ _)) rfl ?_
  exact ⟨rfl, below_setRow HO.out.bel (by omega) _⟩
set_option maxHeartbeats 1000000 in
/-- A text that is too long or too short. -/
theorem networkOf_len (n : Nat) (h1 : 1 ≤ n) (h6 : n ≤ 6) (s : ByteArray) (hsz : ¬ s.size = 4 * (n * n)) (w : World) :
    Calls Tryd.prog 44 #[.agg #[.int .i64 n, .string s]] w (NRes n s w) := by
  have HNV := hid (show NV n s = false from nv_no h1 h6 fun h => hsz h.size)
  have hnn : (4 * (n : Int)) * (n : Int) = ((4 * (n * n) : Nat) : Int) := by push_cast; rw [Int.mul_assoc]
  have hn36 : n * n ≤ 36 := Nat.mul_le_mul h6 h6
  generalize n * n = nn at *
  have hszq : ((s.size : Int) != 4 * (nn : Int)) = true := by rw [bne_iff_ne]; omega
  clear hsz
  have HS := AllLt.start w; go_enter Tryd.func44, Tryd.ntmps44
  go_wp2_with (refine al_net rfl rfl ?_)
  (with_reducible refine (free_on n h1 h6 _).mono ?_)
  rintro e w1 ⟨rfl, hb⟩
  have HO := hid (NO.start (z := n) (s := s) (hb.mono (size2 w _ _)) n (freR n))
  clear hb
  generalize hw2 : (w1.alloc (.cells (netV 0 fun _ _ => 0) 53)).setRow w1.heap.size (netV n (freR n)) = w2 at *
  have q0 := HO.out.a0
  have q1 := HO.out.a1
  have HR := HO.out.res
  go_wp2_with (first | refine al_net rfl rfl ?_ | refine bu_net rfl rfl ?_ | (refine st_net rfl _ _ rfl rfl rfl (NB.made _ _ _) ?_; rw [hw2]) | refine st_net rfl _ _ rfl rfl rfl HR ?_)
  refine bodyPost_ret (res_net2 rfl _ _ _ _ _ rfl rfl (NB.row HR _ _)) rfl ?_
  exact .no HNV.out (below_setRow HO.out.bel (by omega) _)
end Go.Proofs.YtlmmjdaipedjjaaDoor.C
