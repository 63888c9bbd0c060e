/- Valid networks and their relations: the exact laws. -/
import Derived.Test.YtlmmjdaipedjjaaGreatDoorNetJt
namespace Go.Proofs.YtlmmjdaipedjjaaGreatDoor.C
open Go.RowKit
set_option linter.unusedVariables false
set_option linter.unusedSimpArgs false
theorem networkOf_no (z : Int) (s : ByteArray) (h : NV z s = false) (w : World) (hT : TB w) :
    Calls Tryz.prog 34 #[.agg #[.int .i64 z, .string s]] w fun e w' => e = .returned (.tuple #[.agg (netV 0 fun _ _ => 0), .bool false]) ∧ Below w.heap.size w w' := by
  by_cases hz : 1 ≤ z ∧ z ≤ 6
  · obtain ⟨n, rfl⟩ : ∃ n : Nat, z = n := ⟨z.toNat, by omega⟩
    refine (networkOf_some n (by omega) (by omega) s w hT).mono fun e w' h2 => ?_
    rcases h2.1 with ⟨_, h3⟩ | ⟨h3, _⟩
    · rw [h] at h3; cases h3
    · exact ⟨h3, h2.2⟩
  · exact networkOf_size z s hz w
theorem networkOf_yes (n : Nat) (R : Nat → Nat → Nat) (h : OkR n R) (w : World) (hT : TB w) :
    Calls Tryz.prog 34 #[.agg #[.int .i64 n, .string (netS n R)]] w fun e w' => e = .returned (.tuple #[.agg (netV n R), .bool true]) ∧ Below w.heap.size w w' := by
  refine (networkOf_some n h.pos h.le (netS n R) w hT).mono fun e w' h2 => ?_
  rcases h2.1 with ⟨h3, _⟩ | ⟨_, h3⟩
  · rw [mx_net h] at h3; exact ⟨h3, h2.2⟩
  · rw [nv_net h] at h3; cases h3
theorem szNet_on (z : Int) (s : ByteArray) (hs : s.size ≤ 1048576) (w : World) :
    Calls Tryz.prog 4 #[.agg #[.int .i64 z, .string s], .int .i64 1048576] w fun e w' => e = .returned (.int .i64 (1048576 - s.size)) ∧ Below w.heap.size w w' := by
  have h1 : decide ((1048576 : Int) < (s.size : Int)) = false := by simp; omega
  have h2 : ¬ ((1048576 : Int) - (s.size : Int) < 0) := by omega
  have HS := AllLt.start w; go_enter Tryz.func4, Tryz.ntmps4
  go_wp2
  go_ret
  exact ⟨rfl, by (repeat' (first | (with_reducible exact Below.refl _ _) | (with_reducible refine Below.setCell ?_ ?_ _) | (with_reducible refine below_drewN' ?_ _) | (with_reducible refine below_drew' ?_) | (with_reducible refine Below.alloc ?_ ?_ _) | (with_reducible assumption) | go_size))⟩
theorem szNet_off (z : Int) (s : ByteArray) (hs : ¬ s.size ≤ 1048576) (hm : s.size ≤ maxLen) (w : World) :
    Calls Tryz.prog 4 #[.agg #[.int .i64 z, .string s], .int .i64 1048576] w fun e w' => e = .returned (.int .i64 (-1)) ∧ Below w.heap.size w w' := by
  unfold maxLen at hm
  have h2 : (1048576 : Int) - (s.size : Int) < 0 := by omega
  have h3 : (1048576 : Int) < (s.size : Int) := by omega
  have HS := AllLt.start w; go_enter Tryz.func4, Tryz.ntmps4
  go_wp2
  go_ret
  exact ⟨rfl, by (repeat' (first | (with_reducible exact Below.refl _ _) | (with_reducible refine Below.setCell ?_ ?_ _) | (with_reducible refine below_drewN' ?_ _) | (with_reducible refine below_drew' ?_) | (with_reducible refine Below.alloc ?_ ?_ _) | (with_reducible assumption) | go_size))⟩
theorem toNet_any (z : Int) (s : ByteArray) (w : World) :
    Calls Tryz.prog 6 #[.agg #[.int .i64 z, .string s]] w fun e w' => e = .returned (.agg #[.int .i64 z, .string s]) ∧ Below w.heap.size w w' := by
  have HS := AllLt.start w; have hn2 := lt2; have hn3 := lt3; have hn4 := lt4; go_enter Tryz.func6, Tryz.ntmps6
  go_wp2
  refine bodyPost_ret (by simp [results, Tryz.results6, go_sem, *]; try rfl) rfl ?_
  exact ⟨rfl, by (repeat' (first | (with_reducible exact Below.refl _ _) | (with_reducible refine Below.setCell ?_ ?_ _) | (with_reducible refine below_drewN' ?_ _) | (with_reducible refine below_drew' ?_) | (with_reducible refine Below.alloc ?_ ?_ _) | (with_reducible assumption) | go_size))⟩
def hasB (n : Int) (i : Int) : Bool := btw 0 i (n - 1)
theorem hasB_in {n i : Nat} (h : i < n) : hasB n i = true := by simp [hasB, btw]; omega
theorem hasB_cases (n : Nat) (i : Int) : hasB n i = false ∨ ∃ k : Nat, k < n ∧ i = k := by
  cases h : hasB n i
  · exact .inl rfl
  · right
    simp [hasB, btw] at h
    exact ⟨i.toNat, by omega, by omega⟩
/-- the relation of two nodes, -1 if there is none -/
noncomputable def rinI (z : Int) (s : ByteArray) (i k : Int) : Int := if NV z s && hasB z i && hasB z k then (mx z.toNat s i.toNat k.toNat : Nat) else -1
theorem rinI_no {z : Int} {s : ByteArray} (i k : Int) (h : NV z s = false) : rinI z s i k = -1 := by simp [rinI, h]
theorem rinI_i {z : Int} {s : ByteArray} {i : Int} (k : Int) (h : hasB z i = false) : rinI z s i k = -1 := by simp [rinI, h]
theorem rinI_k {z : Int} {s : ByteArray} {k : Int} (i : Int) (h : hasB z k = false) : rinI z s i k = -1 := by simp [rinI, h]
theorem rinI_in {n : Nat} {R : Nat → Nat → Nat} (h : OkR n R) {i k : Nat} (hi : i < n) (hk : k < n) : rinI n (netS n R) i k = (R i k : Nat) := by
  simp [rinI, nv_net h, hasB_in hi, hasB_in hk, mx_net h]
theorem nhas_any (n : Nat) (i : Int) (w : World) :
    Calls Tryz.prog 54 #[.agg #[.int .i64 n], .int .i64 i] w fun e w' => e = .returned (.bool (hasB n i)) ∧ Below w.heap.size w w' := by
  by_cases h0 : 0 ≤ i
  · by_cases h1 : i < (n : Int)
    · have HR := hid (show hasB n i = true by simp [hasB, btw]; omega)
      have HS := AllLt.start w; go_enter Tryz.func54, Tryz.ntmps54
      go_wp2
      go_ret
      exact ⟨by rw [HR.out]; first | rfl | simp [h1], by (repeat' (first | (with_reducible exact Below.refl _ _) | (with_reducible refine Below.setCell ?_ ?_ _) | (with_reducible refine below_drewN' ?_ _) | (with_reducible refine below_drew' ?_) | (with_reducible refine Below.alloc ?_ ?_ _) | (with_reducible assumption) | go_size))⟩
    · have HR := hid (show hasB n i = false by simp [hasB, btw]; omega)
      have h2 : decide (i < (n : Int)) = false := by simp; omega
      have HS := AllLt.start w; go_enter Tryz.func54, Tryz.ntmps54
      go_wp2
      go_ret
      exact ⟨by rw [HR.out]; first | rfl | simp [h1], by (repeat' (first | (with_reducible exact Below.refl _ _) | (with_reducible refine Below.setCell ?_ ?_ _) | (with_reducible refine below_drewN' ?_ _) | (with_reducible refine below_drew' ?_) | (with_reducible refine Below.alloc ?_ ?_ _) | (with_reducible assumption) | go_size))⟩
  · have HR := hid (show hasB n i = false by simp [hasB, btw]; omega)
    have h2 : decide (0 ≤ i) = false := by simp; omega
    have HS := AllLt.start w; go_enter Tryz.func54, Tryz.ntmps54
    go_wp2
    go_ret
    exact ⟨by rw [HR.out]; first | rfl | simp [h0], by (repeat' (first | (with_reducible exact Below.refl _ _) | (with_reducible refine Below.setCell ?_ ?_ _) | (with_reducible refine below_drewN' ?_ _) | (with_reducible refine below_drew' ?_) | (with_reducible refine Below.alloc ?_ ?_ _) | (with_reducible assumption) | go_size))⟩
end Go.Proofs.YtlmmjdaipedjjaaGreatDoor.C
