/- The program's digits of a relation, and relations of digits. -/
import Derived.Test.YtdamnhigdaklcaaNetD
import Derived.Test.YtdamnhigdaklcaaShelf
namespace Go.Proofs.Ytdamnhigdaklcaa.C
open Go.RowKit
set_option linter.unusedVariables false
set_option linter.unusedSimpArgs false
theorem hex_idx {k : Nat} (h : k < 16) (w : World) : (Instr.index 9 (.string ⟨#[48, 49, 50, 51, 52, 53, 54, 55, 56, 57, 97, 98, 99, 100, 101, 102]⟩) (.int .i64 k)).run Try.prog w = .ok (.int .u8 (hxd k).toNat) w := by
  rcases nat16 h with rfl | rfl | rfl | rfl | rfl | rfl | rfl | rfl | rfl | rfl | rfl | rfl | rfl | rfl | rfl | rfl <;> kernel_rfl
theorem conv4 (w : World) (x0 x1 x2 x3 : UInt8) :
    (convert 46 9 (.slice (some ⟨w.heap.size, 0, none⟩) 4 4)).run Try.prog (w.alloc (.cells #[.int .u8 x0.toNat, .int .u8 x1.toNat, .int .u8 x2.toNat, .int .u8 x3.toNat] 55)) =
      .ok (.string ⟨#[x0, x1, x2, x3]⟩) (w.alloc (.cells #[.int .u8 x0.toNat, .int .u8 x1.toNat, .int .u8 x2.toNat, .int .u8 x3.toNat] 55)) := by
  rw [run_convert_bytes_string _ _ _ 5 _ _ _ Try.underlying46 Try.underlying5 Try.underlying9, run_bytesToString _ _ 4 4 [(x0.toNat : Int), x1.toNat, x2.toNat, x3.toNat]]
  · simp
    rfl
  · have := run_loadCells_list (P := Try.prog) (w.alloc (.cells #[.int .u8 x0.toNat, .int .u8 x1.toNat, .int .u8 x2.toNat, .int .u8 x3.toNat] 55)) ⟨w.heap.size, 0, none⟩ [.int .u8 x0.toNat, .int .u8 x1.toNat, .int .u8 x2.toNat, .int .u8 x3.toNat] (fun j v hj => by
      match j, hj with
      | 0, hj => simp at hj; subst hj; simp [Addr.add, go_sem]
      | 1, hj => simp at hj; subst hj; simp [Addr.add, go_sem]
      | 2, hj => simp at hj; subst hj; simp [Addr.add, go_sem]
      | 3, hj => simp at hj; subst hj; simp [Addr.add, go_sem])
    simpa using this
set_option maxHeartbeats 2000000 in
set_option maxRecDepth 100000 in
theorem rdigits_any (r : Nat) (hr : r < 65536) (w : World) :
    Calls Try.prog 14 #[.int .i64 r] w fun e w' => e = .returned (.string (dig r)) ∧ Below w.heap.size w w' := by
  have a0 := and15 hr
  have a1 : bits .and .i64 ((r : Int) / 16) 15 = ((r / 16 % 16 : Nat) : Int) := and15 (show r / 16 < 65536 by omega)
  have a2 : bits .and .i64 ((r : Int) / 16 / 16) 15 = ((r / 256 % 16 : Nat) : Int) := by rw [show (r : Int) / 16 / 16 = ((r / 256 : Nat) : Int) by omega]; exact and15 (show r / 256 < 65536 by omega)
  have a3 : bits .and .i64 ((r : Int) / 16 / 16 / 16) 15 = ((r / 4096 % 16 : Nat) : Int) := by rw [show (r : Int) / 16 / 16 / 16 = ((r / 4096 : Nat) : Int) by omega]; exact and15 (show r / 4096 < 65536 by omega)
  have s0 := hex_idx (Nat.mod_lt r (show 0 < 16 by omega))
  have s1 := hex_idx (Nat.mod_lt (r / 16) (show 0 < 16 by omega))
  have s2 := hex_idx (Nat.mod_lt (r / 256) (show 0 < 16 by omega))
  have s3 := hex_idx (Nat.mod_lt (r / 4096) (show 0 < 16 by omega))
  have hcv := conv4 w
  have HS := AllLt.start w; go_enter Try.func14, Try.ntmps14
  go_wp2
  go_rounds 5
  all_goals
    go_ret
    exact ⟨ret_str (by
      unfold dig digL
      rw [← hexB_at (Nat.mod_lt (r / 4096) (show 0 < 16 by omega)), ← hexB_at (Nat.mod_lt (r / 256) (show 0 < 16 by omega)), ← hexB_at (Nat.mod_lt (r / 16) (show 0 < 16 by omega)), ← hexB_at (Nat.mod_lt r (show 0 < 16 by omega))]
      rfl), by (repeat' (first | (with_reducible exact Below.refl _ _) | (with_reducible refine Below.setCell ?_ ?_ _) | (with_reducible refine below_drewN' ?_ _) | (with_reducible refine below_drew' ?_) | (with_reducible refine Below.alloc ?_ ?_ _) | (with_reducible assumption) | go_size))⟩
end Go.Proofs.Ytdamnhigdaklcaa.C
