/- The draws of laws over networks. -/
import Derived.Test.YtnogdjmciekieabDoorDrwG
import Derived.Deep.RegionWith
namespace Go.Proofs.YtnogdjmciekieabDoor.C
open Go.RowKit
set_option linter.unusedVariables false
set_option linter.unusedSimpArgs false
/-- What a drawing function of one network and two numbers leaves. -/
def OutN2 (w : World) (e : Ending) (w' : World) : Prop := ∃ (z : Int) (s : ByteArray) (i k : Int), I64 z ∧ I64 i ∧ I64 k ∧ e = .returned (.tuple #[.agg #[.int .i64 z, .string s], .int .i64 i, .int .i64 k]) ∧ Below w.heap.size w w'
theorem rd_drewN {B : Nat} {w : World} {q m : Nat} (h : Rd B w q m) : Rd B w.drew q m := h.below (below_drew' (Below.refl w.heap.size w)) h.lt
set_option maxHeartbeats 2000000 in
set_option maxRecDepth 100000 in
theorem DrawRelIn_any (a : Option Addr) (len cap : Nat) (zs : List Int) (w : World) (h : IsRow .u8 w a len cap zs) :
    Calls Tryd.prog 7 #[.slice a len cap] w (OutN2 w) := by
  have HB0 := hid ((Below.refl w.heap.size w).alloc (Nat.le_refl _) (.cells #[.int .i64 0, .string ⟨#[]⟩] 24))
  have HK0 := hid (Nk.made w 0 ⟨#[]⟩)
  have HI := hid (h.below HB0.out)
  clear h
  have HS := AllLt.start w; go_enter Tryd.func7, Tryd.ntmps7
  go_upto_region 1 with fail
  have hz0 : (w.alloc (.cells #[.int .i64 0, .string ⟨#[]⟩] 24)).heap.size = w.heap.size + 1 := by rw [World.size_alloc]
  generalize w.alloc (.cells #[.int .i64 0, .string ⟨#[]⟩] 24) = w0 at *
  go_wp2_with fail
  refine (l14Open_any _ _ _ _ _ HI.out).mono ?_
  rintro e w1 ⟨rfl, hR, hb⟩
  have hz1 := hb.size
  rw [hz0] at hR hz1
  have hRl := hR.lt
  have HR1 := hid hR
  have HB1 := hid (HB0.out.trans (hb.mono HB0.out.size))
  have HK1 := hid (HK0.out.below hb HK0.out.lt)
  clear hR hb HI HB0 HK0
  generalize hqq : w.heap.size + 1 = q at *
  go_wp2_with fail
  refine (l5Get_any q q 0 w1 HR1.out (by omega) (by omega)).mono ?_
  rintro e w2 ⟨z, s, hz, rfl, hR2, hW2⟩
  have hz2 := hW2.size
  have HZ := hid hz
  have HR2 := hid (hR2.alloc (.cells #[.int .i64 z, .string s] 24))
  have HK2 := hid (nk_alloc (HK1.out.wr hW2 (by omega)) (.cells #[.int .i64 z, .string s] 24))
  have HN2 := hid (Nk.made w2 z s)
  have HB2 := hid ((HB1.out.trans (hW2.below (by omega) HB1.out.size)).alloc (by omega) (.cells #[.int .i64 z, .string s] 24))
  clear hR2 hW2 hz HR1 HK1 HB1
  go_upto_region 3 with fail
  have hz3 : (w2.alloc (.cells #[.int .i64 z, .string s] 24)).heap.size = w2.heap.size + 1 := by rw [World.size_alloc]
  generalize w2.alloc (.cells #[.int .i64 z, .string s] 24) = w3 at *
  go_wp2_with fail
  refine (l5Node_any q q _ w3 HR2.out (by omega)).mono ?_
  rintro e w4 ⟨i, hi, rfl, hR4, hW4⟩
  have hz4 := hW4.size
  have HIi := hid hi
  have HR4 := hid hR4
  have HK4 := hid (HK2.out.wr hW4 (by omega))
  have HN4 := hid (HN2.out.wr hW4 (by omega))
  have HB4 := hid (HB2.out.trans (hW4.below (by omega) HB2.out.size))
  clear hR4 hW4 hi HR2 HK2 HN2 HB2
  have n0 := HN4.out.c0
  have n1 := HN4.out.c1
  have r0 := HK4.out.c0
  have r1 := HK4.out.c1
  have rf0 := HK4.out.fr 0
  have rf1 := HK4.out.fr 1
  have d1 : ¬ w.heap.size = w2.heap.size := by omega
  have d2 : ¬ w2.heap.size = w.heap.size := by omega
  go_upto_region 4 with fail
  go_region_with (first
    | (go_at_call 35; refine (l5Node_any q q (0 + 312 + 2) _ (rd_drewN HR4.out) (by omega)).mono ?_; rintro e w5 ⟨k, hk, rfl, hR5, hW5⟩; have hWy : Wr q w4 w5 := ⟨hW5.os, hW5.tape, hW5.output, hW5.size, hW5.block⟩; have HKi := hid hk; have HN5 := hid (HN4.out.wr hWy (by omega)); have HK5 := hid (HK4.out.wr hWy (by omega)); have HB5 := hid (HB4.out.trans (hWy.below (by omega) HB4.out.size)); have n50 := HN5.out.c0; have n51 := HN5.out.c1; have r50 := HK5.out.c0; have r51 := HK5.out.c1; have rf50 := HK5.out.fr 0; have rf51 := HK5.out.fr 1; clear hR5 hW5 hWy hk)
    | fail)
  all_goals
    go_wp2_with fail
    refine bodyPost_ret (by simp [results, Tryd.results7, go_sem, *]; try rfl) rfl ?_
    have hb5 := HB5.out
    exact ⟨z, s, i, k, HZ.out, HIi.out, HKi.out, rfl, by (repeat' (first | (with_reducible exact Below.refl _ _) | (with_reducible refine Below.setCell ?_ ?_ _) | (with_reducible refine below_drewN' ?_ _) | (with_reducible refine below_drew' ?_) | (with_reducible refine Below.alloc ?_ ?_ _) | (with_reducible assumption) | go_size))⟩
end Go.Proofs.YtnogdjmciekieabDoor.C
