/- The program's networks with another relation of two nodes. Networks with another relation of two nodes: the model, the exact laws. -/
import Derived.Test.YtnogdjmciekieabDoorMee
import Derived.Test.YtnogdjmciekieabDoorNetZ
namespace Go.Proofs.YtnogdjmciekieabDoor.C
section
open Go.RowKit
set_option linter.unusedVariables false
set_option linter.unusedSimpArgs false
theorem index0 (a : Option Addr) (c : Nat) (v : Int) (w : World) : Calls Tryd.prog 131 #[.slice a 0 c, .int .i64 v] w fun e w' => e = .returned (.int .i64 (-1)) ∧ w = w' := by
  have HS := AllLt.start w; go_enter Tryd.func131, Tryd.ntmps131
  go_wp2
  go_rounds 1
  go_ret
  exact ⟨rfl, rfl⟩
theorem index1_yes (b c : Nat) (v : Int) (w : World) (h : w.cell? ⟨b, 0, none⟩ = some (.int .i64 v)) : Calls Tryd.prog 131 #[.slice (some ⟨b, 0, none⟩) 1 c, .int .i64 v] w fun e w' => e = .returned (.int .i64 0) ∧ w = w' := by
  have HS := AllLt.start w; go_enter Tryd.func131, Tryd.ntmps131
  go_wp2
  go_rounds 2
  go_ret
  exact ⟨rfl, rfl⟩
theorem index1_no (b c : Nat) (v x : Int) (w : World) (h : w.cell? ⟨b, 0, none⟩ = some (.int .i64 x)) (hx : (v == x) = false) : Calls Tryd.prog 131 #[.slice (some ⟨b, 0, none⟩) 1 c, .int .i64 v] w fun e w' => e = .returned (.int .i64 (-1)) ∧ w = w' := by
  have HS := AllLt.start w; go_enter Tryd.func131, Tryd.ntmps131
  go_wp2
  go_rounds 2
  go_ret
  exact ⟨rfl, rfl⟩
theorem contains0 (a : Option Addr) (c : Nat) (v : Int) (w : World) : Calls Tryd.prog 113 #[.slice a 0 c, .int .i64 v] w fun e w' => e = .returned (.bool false) ∧ w = w' := by
  have HS := AllLt.start w; go_enter Tryd.func113, Tryd.ntmps113
  go_wp2_with (first | (go_at_call 131; (with_reducible refine (index0 _ _ _ _).mono ?_); rintro e w' ⟨rfl, rfl⟩))
  go_ret
  exact ⟨rfl, rfl⟩
theorem contains1_yes (b c : Nat) (v : Int) (w : World) (h : w.cell? ⟨b, 0, none⟩ = some (.int .i64 v)) : Calls Tryd.prog 113 #[.slice (some ⟨b, 0, none⟩) 1 c, .int .i64 v] w fun e w' => e = .returned (.bool true) ∧ w = w' := by
  have HS := AllLt.start w; go_enter Tryd.func113, Tryd.ntmps113
  go_wp2_with (first | (go_at_call 131; (with_reducible refine (index1_yes _ _ _ _ h).mono ?_); rintro e w' ⟨rfl, rfl⟩))
  go_ret
  exact ⟨rfl, rfl⟩
theorem contains1_no (b c : Nat) (v x : Int) (w : World) (h : w.cell? ⟨b, 0, none⟩ = some (.int .i64 x)) (hx : (v == x) = false) : Calls Tryd.prog 113 #[.slice (some ⟨b, 0, none⟩) 1 c, .int .i64 v] w fun e w' => e = .returned (.bool false) ∧ w = w' := by
  have HS := AllLt.start w; go_enter Tryd.func113, Tryd.ntmps113
  go_wp2_with (first | (go_at_call 131; (with_reducible refine (index1_no _ _ _ _ _ h hx).mono ?_); rintro e w' ⟨rfl, rfl⟩))
  go_ret
  exact ⟨rfl, rfl⟩
/-- two numbers are different nodes -/
def difB (n : Int) (i k : Int) : Bool := hasB n i && hasB n k && !(k == i)
set_option maxHeartbeats 2000000 in
theorem hasDifferent_any (n : Nat) (i k : Int) (b : Nat) (w : World) (c0 : w.cell? ⟨b, 0, none⟩ = some (.int .i64 i)) (c1 : w.cell? ⟨b, 1, none⟩ = some (.int .i64 k)) (hb : b < w.heap.size) :
    Calls Tryd.prog 92 #[.agg #[.int .i64 n], .slice (some ⟨b, 0, none⟩) 2 2] w fun e w' => e = .returned (.bool (difB n i k)) ∧ Below w.heap.size w w' := by
  have HC0 := hid c0
  have HC1 := hid c1
  clear c0 c1
  have HS := AllLt.start w; go_enter Tryd.func92, Tryd.ntmps92
  go_wp2_with fail
  go_loopw [9] (fun v wr => ∃ j : Nat, j ≤ 2 ∧ v = .int .i64 j ∧ Hid (1 ≤ j → hasB n i = true) ∧ Hid (2 ≤ j → difB n i k = true) ∧ Hid (Below (w.heap.size + 1) (w.alloc (.cells #[.int .i64 (n : Int)] 58)) wr)) (fun v _ => 2 - (intOf v).toNat)
  case atStart => exact ⟨0, by omega, rfl, hid (fun h => by omega), hid (fun h => by omega), hid (Below.refl _ _)⟩
  case round =>
    obtain ⟨j, hj, rfl, HI, HD, HX⟩ := hrel
    clear HS
    obtain ⟨wi, rfl⟩ : ∃ wi : World, wi = wr := ⟨_, rfl⟩
    have HBw := hid (((Below.refl w.heap.size w).alloc (Nat.le_refl _) (.cells #[.int .i64 (n : Int)] 58)).trans (HX.out.mono (by omega)))
    have hA := (HX.out.cell (p := ⟨w.heap.size, 0, none⟩) (show w.heap.size < w.heap.size + 1 by omega)).trans (show (w.alloc (.cells #[.int .i64 (n : Int)] 58)).cell? ⟨w.heap.size, 0, none⟩ = some (.int .i64 (n : Int)) by simp [go_sem])
    have q0 := (HBw.out.cell (p := ⟨b, 0, none⟩) hb).trans HC0.out
    have q1 := (HBw.out.cell (p := ⟨b, 1, none⟩) hb).trans HC1.out
    have hbw : b < wi.heap.size := Nat.lt_of_lt_of_le hb HBw.out.size
    have hj3 : j = 0 ∨ j = 1 ∨ j = 2 := by omega
    rcases hj3 with rfl | rfl | rfl
    · cases hi : hasB n i
      · have HQ := hid hi
        have HR := hid (show difB n i k = false by simp [difB, hi])
        clear hi
        go_wp2_with (first | (go_at_call 37; (with_reducible refine (nhas_any n i _).mono ?_); rintro e w4 ⟨rfl, hb4⟩; rw [HQ.out]))
        go_ret
        exact ⟨ret_bool HR.out.symm, HBw.out.trans (hb4.mono HBw.out.size)⟩
      · have HQ := hid hi
        clear hi
        go_wp2_with (first | (go_at_call 37; (with_reducible refine (nhas_any n i _).mono ?_); rintro e w4 ⟨rfl, hb4⟩; rw [HQ.out]) | (go_at_call 113; (with_reducible refine (contains0 _ _ _ _).mono ?_); rintro e w' ⟨rfl, rfl⟩))
        go_roundw
        case rel => exact ⟨1, by omega, by go_num, hid (by first | trivial | exact fun _ => HQ.out), hid (fun h => by omega), hid (HX.out.trans (hb4.mono (by have := HX.out.size; simpa using this)))⟩
        case measure => simp [intOf]
    · have hi := HI.out (by omega)
      cases hk : hasB n k
      · have HQ := hid hk
        have HR := hid (show difB n i k = false by simp [difB, hk])
        clear hk hi
        go_wp2_with (first | (go_at_call 37; (with_reducible refine (nhas_any n k _).mono ?_); rintro e w4 ⟨rfl, hb4⟩; rw [HQ.out]))
        go_ret
        exact ⟨ret_bool HR.out.symm, HBw.out.trans (hb4.mono HBw.out.size)⟩
      · have HQ := hid hk
        cases hik : (k == i)
        · have HR := hid (show difB n i k = true by simp only [difB, hi, hk, hik]; rfl)
          have HE := hid hik
          clear hk hi hik
          go_wp2_with (first | (go_at_call 37; (with_reducible refine (nhas_any n k _).mono ?_); rintro e w4 ⟨rfl, hb4⟩; rw [HQ.out]; have q4 := (hb4.cell (p := ⟨b, 0, none⟩) hbw).trans q0) | (go_at_call 113; (with_reducible refine (contains1_no _ _ _ _ _ q4 HE.out).mono ?_); rintro e w' ⟨rfl, rfl⟩))
          go_roundw
          case rel => exact ⟨2, by omega, by go_num, hid (by first | trivial | exact fun h => HI.out (by omega)), hid (by first | trivial | exact fun _ => HR.out), hid (HX.out.trans (hb4.mono (by have := HX.out.size; simpa using this)))⟩
          case measure => simp [intOf]
        · have HR := hid (show difB n i k = false by simp only [difB, hi, hk, hik]; rfl)
          obtain rfl : k = i := by simpa using hik
          clear hk hi hik
          go_wp2_with (first | (go_at_call 37; (with_reducible refine (nhas_any n k _).mono ?_); rintro e w4 ⟨rfl, hb4⟩; rw [HQ.out]; have q4 := (hb4.cell (p := ⟨b, 0, none⟩) hbw).trans q0) | (go_at_call 113; (with_reducible refine (contains1_yes _ _ _ _ q4).mono ?_); rintro e w' ⟨rfl, rfl⟩))
          go_ret
          exact ⟨ret_bool HR.out.symm, HBw.out.trans (hb4.mono HBw.out.size)⟩
    · have HR := hid (HD.out (by omega))
      go_wp2_with fail
      go_ret
      exact ⟨ret_bool HR.out.symm, HBw.out⟩
theorem nk_alloc0 {w : World} {g : Nat} {z : Int} {s : ByteArray} (h : Nk w g z s) (o : Obj) : Nk (w.alloc o) g z s := (Below.heap_alloc w o g h.lt).trans h
set_option maxHeartbeats 2000000 in
theorem netWith_no (z : Int) (s : ByteArray) (h : NV z s = false) (i k r : Int) (c : Value) (w : World) (hT : TB w) :
    Calls Tryd.prog 50 #[.agg #[.int .i64 z, .string s], .int .i64 i, .int .i64 k, .int .i64 r, c] w fun e w' => e = .returned (.tuple #[.agg #[.int .i64 0, .string ⟨#[]⟩], .bool false]) ∧ Below w.heap.size w w' := by
  have HNV := hid h
  clear h
  have HK := hid (show Nk ((w.alloc (.cells #[.int .i64 z, .string s] 24)).alloc (.cells #[.int .i64 0, .string ⟨#[]⟩] 24)) (w.heap.size + 1) 0 ⟨#[]⟩ by
    have h := Nk.made (w.alloc (.cells #[.int .i64 z, .string s] 24)) 0 ⟨#[]⟩
    rw [World.size_alloc] at h
    exact h)
  have HB := hid (((Below.refl w.heap.size w).alloc (Nat.le_refl _) (.cells #[.int .i64 z, .string s] 24)).alloc (by simp) (.cells #[.int .i64 0, .string ⟨#[]⟩] 24))
  have hz : Hid (((w.alloc (.cells #[.int .i64 z, .string s] 24)).alloc (.cells #[.int .i64 0, .string ⟨#[]⟩] 24)).heap.size = w.heap.size + 1 + 1) := hid (by rw [World.size_alloc, World.size_alloc])
  have HT0 := hid hT
  have HT := hid (hT.below HB.out)
  clear hT
  have HS := AllLt.start w; go_enter Tryd.func50, Tryd.ntmps50
  go_wp2_with fail
  (with_reducible refine (networkOf_no z s HNV.out _ HT.out).mono ?_)
  rintro e w1 ⟨rfl, hb⟩
  have HB1 := hid (HB.out.trans (hb.mono HB.out.size))
  have HK1 := hid (HK.out.below hb HK.out.lt)
  have hz1 : w.heap.size + 1 + 1 ≤ w1.heap.size := by have := hb.size; have := hz.out; omega
  have HB2 := hid (below_setRow (HB1.out.alloc HB1.out.size (.cells (netV 0 fun _ _ => 0) 63)) HB1.out.size (netV 0 fun _ _ => 0))
  have HK2 := hid (show Nk ((w1.alloc (.cells (netV 0 fun _ _ => 0) 63)).setRow w1.heap.size (netV 0 fun _ _ => 0)) (w.heap.size + 1) 0 ⟨#[]⟩ from by
    unfold Nk World.setRow
    rw [Array.getElem?_modify, if_neg (by omega)]
    exact (Below.heap_alloc w1 _ _ HK1.out.lt).trans HK1.out)
  
  clear hb
  go_upto_region 2 with (first | refine al_net rfl rfl ?_ | refine st_net rfl _ _ rfl rfl rfl (NB.made w1 0 fun _ _ => 0) ?_)
  generalize (w1.alloc (.cells (netV 0 fun _ _ => 0) 63)).setRow w1.heap.size (netV 0 fun _ _ => 0) = w2 at *
  generalize w1.heap.size = N at *
  have HKr := HK2
  have HBr := HB2
  have r0 := HKr.out.c0
  have r1 := HKr.out.c1
  have rf0 := HKr.out.fr 0
  have rf1 := HKr.out.fr 1
  go_wp2_with fail
  refine bodyPost_ret (by simp [results, Tryd.results50, go_sem, *]; try rfl) rfl ?_
  exact ⟨rfl, (HBr.out.setCell (p := ⟨w.heap.size + 1, 0, none⟩) (by simp) _).setCell (p := ⟨w.heap.size + 1, 1, none⟩) (by simp) _⟩
set_option maxHeartbeats 2000000 in
theorem netWith_dif (n : Nat) (R : Nat → Nat → Nat) (hR : OkR n R) (i k r : Int) (h : difB n i k = false) (c : Value) (w : World) (hT : TB w) :
    Calls Tryd.prog 50 #[.agg #[.int .i64 n, .string (netS n R)], .int .i64 i, .int .i64 k, .int .i64 r, c] w fun e w' => e = .returned (.tuple #[.agg #[.int .i64 0, .string ⟨#[]⟩], .bool false]) ∧ Below w.heap.size w w' := by
  have HNO := hid (networkOf_yes n R hR)
  have HD := hid h
  clear h hR
  generalize netS n R = s at *
  have HK := hid (show Nk ((w.alloc (.cells #[.int .i64 (n : Int), .string s] 24)).alloc (.cells #[.int .i64 0, .string ⟨#[]⟩] 24)) (w.heap.size + 1) 0 ⟨#[]⟩ by
    have h := Nk.made (w.alloc (.cells #[.int .i64 (n : Int), .string s] 24)) 0 ⟨#[]⟩
    rw [World.size_alloc] at h
    exact h)
  have HB := hid (((Below.refl w.heap.size w).alloc (Nat.le_refl _) (.cells #[.int .i64 (n : Int), .string s] 24)).alloc (by simp) (.cells #[.int .i64 0, .string ⟨#[]⟩] 24))
  have hz : Hid (((w.alloc (.cells #[.int .i64 (n : Int), .string s] 24)).alloc (.cells #[.int .i64 0, .string ⟨#[]⟩] 24)).heap.size = w.heap.size + 1 + 1) := hid (by rw [World.size_alloc, World.size_alloc])
  have HT0 := hid hT
  have HT := hid (hT.below HB.out)
  clear hT
  have HS := AllLt.start w; go_enter Tryd.func50, Tryd.ntmps50
  go_wp2_with fail
  (with_reducible refine (HNO.out _ HT.out).mono ?_)
  rintro e w1 ⟨rfl, hb⟩
  have HB1 := hid (HB.out.trans (hb.mono HB.out.size))
  have HK1 := hid (HK.out.below hb HK.out.lt)
  have hz1 : w.heap.size + 1 + 1 ≤ w1.heap.size := by have := hb.size; have := hz.out; omega
  have HB2 := hid (below_setRow (HB1.out.alloc HB1.out.size (.cells (netV 0 fun _ _ => 0) 63)) HB1.out.size (netV n R))
  have HK2 := hid (show Nk ((w1.alloc (.cells (netV 0 fun _ _ => 0) 63)).setRow w1.heap.size (netV n R)) (w.heap.size + 1) 0 ⟨#[]⟩ from by
    unfold Nk World.setRow
    rw [Array.getElem?_modify, if_neg (by omega)]
    exact (Below.heap_alloc w1 _ _ HK1.out.lt).trans HK1.out)
  have HN2 := hid ((NB.made w1 0 fun _ _ => 0).row n R)
  clear hb
  go_upto_region 2 with (first | refine al_net rfl rfl ?_ | refine st_net rfl _ _ rfl rfl rfl (NB.made w1 0 fun _ _ => 0) ?_)
  generalize (w1.alloc (.cells (netV 0 fun _ _ => 0) 63)).setRow w1.heap.size (netV n R) = w2 at *
  generalize w1.heap.size = N at *
  have n0 := HN2.out.cell0
  go_upto_region 3 with (first | (go_at_call 92; (with_reducible refine (hasDifferent_any n i k w2.heap.size _ (by simp [go_sem]) (by simp [go_sem]) (by simp)).mono ?_); rintro e w4 ⟨rfl, hb4⟩; rw [HD.out]; have hb4 : Below w2.heap.size w2 w4 := ((Below.refl w2.heap.size w2).alloc (Nat.le_refl _) _).trans (hb4.mono (by simp)); have HK4 := hid (HK2.out.below hb4 HK2.out.lt); have HB4 := hid (HB2.out.trans (hb4.mono HB2.out.size)); have HN4 := hid (HN2.out.below' hb4); clear hb4))
  have HKr := HK4
  have HBr := HB4
  have r0 := HKr.out.c0
  have r1 := HKr.out.c1
  have rf0 := HKr.out.fr 0
  have rf1 := HKr.out.fr 1
  go_wp2_with fail
  refine bodyPost_ret (by simp [results, Tryd.results50, go_sem, *]; try rfl) rfl ?_
  exact ⟨rfl, (HBr.out.setCell (p := ⟨w.heap.size + 1, 0, none⟩) (by simp) _).setCell (p := ⟨w.heap.size + 1, 1, none⟩) (by simp) _⟩
set_option maxHeartbeats 2000000 in
theorem netWith_rel (n : Nat) (R : Nat → Nat → Nat) (hR : OkR n R) (i k r : Int) (h : difB n i k = true) (hv : rv r = false) (c : Value) (w : World) (hT : TB w) :
    Calls Tryd.prog 50 #[.agg #[.int .i64 n, .string (netS n R)], .int .i64 i, .int .i64 k, .int .i64 r, c] w fun e w' => e = .returned (.tuple #[.agg #[.int .i64 0, .string ⟨#[]⟩], .bool false]) ∧ Below w.heap.size w w' := by
  have HNO := hid (networkOf_yes n R hR)
  have HD := hid h
  have HV := hid hv
  clear hv
  clear h hR
  generalize netS n R = s at *
  have HK := hid (show Nk ((w.alloc (.cells #[.int .i64 (n : Int), .string s] 24)).alloc (.cells #[.int .i64 0, .string ⟨#[]⟩] 24)) (w.heap.size + 1) 0 ⟨#[]⟩ by
    have h := Nk.made (w.alloc (.cells #[.int .i64 (n : Int), .string s] 24)) 0 ⟨#[]⟩
    rw [World.size_alloc] at h
    exact h)
  have HB := hid (((Below.refl w.heap.size w).alloc (Nat.le_refl _) (.cells #[.int .i64 (n : Int), .string s] 24)).alloc (by simp) (.cells #[.int .i64 0, .string ⟨#[]⟩] 24))
  have hz : Hid (((w.alloc (.cells #[.int .i64 (n : Int), .string s] 24)).alloc (.cells #[.int .i64 0, .string ⟨#[]⟩] 24)).heap.size = w.heap.size + 1 + 1) := hid (by rw [World.size_alloc, World.size_alloc])
  have HT0 := hid hT
  have HT := hid (hT.below HB.out)
  clear hT
  have HS := AllLt.start w; go_enter Tryd.func50, Tryd.ntmps50
  go_wp2_with fail
  (with_reducible refine (HNO.out _ HT.out).mono ?_)
  rintro e w1 ⟨rfl, hb⟩
  have HB1 := hid (HB.out.trans (hb.mono HB.out.size))
  have HK1 := hid (HK.out.below hb HK.out.lt)
  have hz1 : w.heap.size + 1 + 1 ≤ w1.heap.size := by have := hb.size; have := hz.out; omega
  have HB2 := hid (below_setRow (HB1.out.alloc HB1.out.size (.cells (netV 0 fun _ _ => 0) 63)) HB1.out.size (netV n R))
  have HK2 := hid (show Nk ((w1.alloc (.cells (netV 0 fun _ _ => 0) 63)).setRow w1.heap.size (netV n R)) (w.heap.size + 1) 0 ⟨#[]⟩ from by
    unfold Nk World.setRow
    rw [Array.getElem?_modify, if_neg (by omega)]
    exact (Below.heap_alloc w1 _ _ HK1.out.lt).trans HK1.out)
  have HN2 := hid ((NB.made w1 0 fun _ _ => 0).row n R)
  clear hb
  go_upto_region 2 with (first | refine al_net rfl rfl ?_ | refine st_net rfl _ _ rfl rfl rfl (NB.made w1 0 fun _ _ => 0) ?_)
  generalize (w1.alloc (.cells (netV 0 fun _ _ => 0) 63)).setRow w1.heap.size (netV n R) = w2 at *
  generalize w1.heap.size = N at *
  have n0 := HN2.out.cell0
  go_upto_region 3 with (first | (go_at_call 92; (with_reducible refine (hasDifferent_any n i k w2.heap.size _ (by simp [go_sem]) (by simp [go_sem]) (by simp)).mono ?_); rintro e w4 ⟨rfl, hb4⟩; rw [HD.out]; have hb4 : Below w2.heap.size w2 w4 := ((Below.refl w2.heap.size w2).alloc (Nat.le_refl _) _).trans (hb4.mono (by simp)); have HK4 := hid (HK2.out.below hb4 HK2.out.lt); have HB4 := hid (HB2.out.trans (hb4.mono HB2.out.size)); have HN4 := hid (HN2.out.below' hb4); clear hb4) | (go_at_call 45; (with_reducible refine (iRelValid_any _ _).mono ?_); rintro e w' ⟨rfl, rfl⟩; rw [HV.out]))
  have HKr := HK4
  have HBr := HB4
  have r0 := HKr.out.c0
  have r1 := HKr.out.c1
  have rf0 := HKr.out.fr 0
  have rf1 := HKr.out.fr 1
  go_wp2_with fail
  refine bodyPost_ret (by simp [results, Tryd.results50, go_sem, *]; try rfl) rfl ?_
  exact ⟨rfl, (HBr.out.setCell (p := ⟨w.heap.size + 1, 0, none⟩) (by simp) _).setCell (p := ⟨w.heap.size + 1, 1, none⟩) (by simp) _⟩
theorem closP_any (R : Nat → Nat → Nat) (i k r : Nat) (hr : r < 8192) (hR : R i k < 8192) (w : World) :
    Calls Tryd.prog 51 #[.int .i64 ((R i k : Nat) : Int), .int .i64 r] w fun e w' => e = .returned (.int .i64 ((r : Nat) : Int)) ∧ w = w' := by
  have HA := hid (i64_and (R i k) r (by omega) (by omega))
  have HS := AllLt.start w; go_enter Tryd.func51, Tryd.ntmps51
  go_wp2
  go_ret
  exact ⟨by first | rfl | exact ret_int HA.out, rfl⟩
set_option maxHeartbeats 4000000 in
set_option maxRecDepth 100000 in
theorem netWithP_yes (n : Nat) (R : Nat → Nat → Nat) (hR : OkR n R) (i k r : Nat) (hi : i < n) (hk : k < n) (hne : i ≠ k) (hr : r < 8192) (w : World) (hT : TB w) :
    Calls Tryd.prog 50 #[.agg #[.int .i64 n, .string (netS n R)], .int .i64 i, .int .i64 k, .int .i64 r, .func (.func 51) #[] #[]] w fun e w' => e = .returned (.tuple #[.agg #[.int .i64 n, .string (netS n (putR R i k r))], .bool true]) ∧ Below w.heap.size w w' := by
  have HNO := hid (networkOf_yes n R hR)
  have HD := hid (show difB (n : Int) (i : Int) (k : Int) = true by
    simp only [difB, hasB_in hi, hasB_in hk]
    have : ((k : Int) == (i : Int)) = false := by rw [beq_eq_false_iff_ne]; omega
    rw [this]; rfl)
  have HV := hid (rv_nat r hr)
  have hv8 : r < 8192 := by first | exact hr | exact and_lt (hR.lt i k)
  have HCL := hid (closP_any R i k r hr (hR.lt i k))
  have HNT := hid (net_any n hR.le (putR R i k r) (putR_ok hR hi hk hne hv8).lt)
  have i6 : i < 6 := by have := hR.le; omega
  have k6 : k < 6 := by have := hR.le; omega
  clear hR
  generalize netS n (putR R i k r) = t at *
  generalize netS n R = s at *
  have HK := hid (show Nk ((w.alloc (.cells #[.int .i64 (n : Int), .string s] 24)).alloc (.cells #[.int .i64 0, .string ⟨#[]⟩] 24)) (w.heap.size + 1) 0 ⟨#[]⟩ by
    have h := Nk.made (w.alloc (.cells #[.int .i64 (n : Int), .string s] 24)) 0 ⟨#[]⟩
    rw [World.size_alloc] at h
    exact h)
  have HB := hid (((Below.refl w.heap.size w).alloc (Nat.le_refl _) (.cells #[.int .i64 (n : Int), .string s] 24)).alloc (by simp) (.cells #[.int .i64 0, .string ⟨#[]⟩] 24))
  have hz : Hid (((w.alloc (.cells #[.int .i64 (n : Int), .string s] 24)).alloc (.cells #[.int .i64 0, .string ⟨#[]⟩] 24)).heap.size = w.heap.size + 1 + 1) := hid (by rw [World.size_alloc, World.size_alloc])
  have HT0 := hid hT
  have HT := hid (hT.below HB.out)
  clear hT
  have HS := AllLt.start w; go_enter Tryd.func50, Tryd.ntmps50
  go_wp2_with fail
  (with_reducible refine (HNO.out _ HT.out).mono ?_)
  rintro e w1 ⟨rfl, hb⟩
  have HB1 := hid (HB.out.trans (hb.mono HB.out.size))
  have HK1 := hid (HK.out.below hb HK.out.lt)
  have hz1 : w.heap.size + 1 + 1 ≤ w1.heap.size := by have := hb.size; have := hz.out; omega
  have HB2 := hid (below_setRow (HB1.out.alloc HB1.out.size (.cells (netV 0 fun _ _ => 0) 63)) HB1.out.size (netV n R))
  have HK2 := hid (show Nk ((w1.alloc (.cells (netV 0 fun _ _ => 0) 63)).setRow w1.heap.size (netV n R)) (w.heap.size + 1) 0 ⟨#[]⟩ from by
    unfold Nk World.setRow
    rw [Array.getElem?_modify, if_neg (by omega)]
    exact (Below.heap_alloc w1 _ _ HK1.out.lt).trans HK1.out)
  have HN2 := hid ((NB.made w1 0 fun _ _ => 0).row n R)
  clear hb
  go_upto_region 2 with (first | refine al_net rfl rfl ?_ | refine st_net rfl _ _ rfl rfl rfl (NB.made w1 0 fun _ _ => 0) ?_)
  generalize (w1.alloc (.cells (netV 0 fun _ _ => 0) 63)).setRow w1.heap.size (netV n R) = w2 at *
  generalize w1.heap.size = N at *
  have n0 := HN2.out.cell0
  have hgN : w.heap.size + 1 + 1 ≤ N := hz1
  go_upto_region 4 with (first | (go_at_call 92; (with_reducible refine (hasDifferent_any n i k w2.heap.size _ (by simp [go_sem]) (by simp [go_sem]) (by simp)).mono ?_); rintro e w4 ⟨rfl, hb4⟩; rw [HD.out]; have hb4 : Below w2.heap.size w2 w4 := ((Below.refl w2.heap.size w2).alloc (Nat.le_refl _) _).trans (hb4.mono (by simp)); have HK4 := hid (HK2.out.below hb4 HK2.out.lt); have HB4 := hid (HB2.out.trans (hb4.mono HB2.out.size)); have HN4 := hid (HN2.out.below' hb4); clear hb4) | (go_at_call 45; (with_reducible refine (iRelValid_any _ _).mono ?_); rintro e w' ⟨rfl, rfl⟩; rw [HV.out]))
  go_wp2_with (refine ld_net rfl _ rfl rfl HN4.out ?_)
  (with_reducible refine (edge_any n R i k i6 k6 _).mono ?_)
  rintro e w5 ⟨rfl, hb⟩
  have HK5 := hid (HK4.out.below hb HK4.out.lt)
  have HB5 := hid (HB4.out.trans (hb.mono HB4.out.size))
  have HN5 := hid (HN4.out.below' hb)
  clear hb
  generalize hMM : R i k = M at *
  have HMM := hid hMM
  clear hMM
  obtain ⟨m0, m1, m2⟩ := new_cell3 w5 (.int .i64 i) (.int .i64 ((M : Nat) : Int)) (.int .i64 k) 68
  have mf := frozen_of_row (w5.alloc (.cells #[.int .i64 i, .int .i64 ((M : Nat) : Int), .int .i64 k] 68)) w5.heap.size 1 _ _ (heap_alloc_new w5 _)
  have HK6 := hid (nk_alloc0 HK5.out (.cells #[.int .i64 i, .int .i64 ((M : Nat) : Int), .int .i64 k] 68))
  have HB6 := hid (HB5.out.alloc HB5.out.size (.cells #[.int .i64 i, .int .i64 ((M : Nat) : Int), .int .i64 k] 68))
  have HN6 := hid (HN5.out.alloc (.cells #[.int .i64 i, .int .i64 ((M : Nat) : Int), .int .i64 k] 68))
  go_wp2_with (first | (go_at_call 51; (with_reducible refine (HCL.out _).mono ?_); rintro e w' ⟨rfl, rfl⟩))
  have HK6' := hid (nk_alloc0 HK5.out (.cells #[.int .i64 i, .int .i64 ((r : Nat) : Int), .int .i64 k] 68))
  have HB6' := hid (HB5.out.alloc HB5.out.size (.cells #[.int .i64 i, .int .i64 ((r : Nat) : Int), .int .i64 k] 68))
  have HN6' := hid (HN5.out.alloc (.cells #[.int .i64 i, .int .i64 ((r : Nat) : Int), .int .i64 k] 68))
  clear HK6 HB6 HN6
  generalize w5.alloc (.cells #[.int .i64 i, .int .i64 ((r : Nat) : Int), .int .i64 k] 68) = w6 at *
  (with_reducible refine (put_any N n R i r k i6 k6 hv8 _ (HT0.out.below HB6'.out) HN6'.out).mono ?_)
  rintro e w7 ⟨rfl, hn7, hw7⟩
  have HN7 := hid hn7
  have HK7 := hid (show Nk w7 (w.heap.size + 1) 0 ⟨#[]⟩ from (hw7.block _ HK6'.out.lt (by omega)).trans HK6'.out)
  have HB7 := hid (HB6'.out.trans (hw7.below (B := w.heap.size) (by omega) HB6'.out.size))
  clear hn7 hw7 m0 m1 m2 mf
  go_wp2_with (refine ld_net rfl _ rfl rfl HN7.out ?_)
  (with_reducible refine (HNT.out _).mono ?_)
  rintro e w8 ⟨rfl, hb⟩
  have HKr := hid (HK7.out.below hb HK7.out.lt)
  have HBr := hid (HB7.out.trans (hb.mono HB7.out.size))
  clear hb
  have r0 := HKr.out.c0
  have r1 := HKr.out.c1
  have rf0 := HKr.out.fr 0
  have rf1 := HKr.out.fr 1
  go_wp2_with fail
  refine bodyPost_ret (by simp [results, Tryd.results50, go_sem, *]; try rfl) rfl ?_
  exact ⟨rfl, (HBr.out.setCell (p := ⟨w.heap.size + 1, 0, none⟩) (by simp) _).setCell (p := ⟨w.heap.size + 1, 1, none⟩) (by simp) _⟩
theorem closL_any (R : Nat → Nat → Nat) (i k r : Nat) (hr : r < 8192) (hR : R i k < 8192) (w : World) :
    Calls Tryd.prog 56 #[.int .i64 ((R i k : Nat) : Int), .int .i64 r] w fun e w' => e = .returned (.int .i64 (((R i k &&& r) : Nat) : Int)) ∧ w = w' := by
  have HA := hid (i64_and (R i k) r (by omega) (by omega))
  have HS := AllLt.start w; go_enter Tryd.func56, Tryd.ntmps56
  go_wp2
  go_ret
  exact ⟨by first | rfl | exact ret_int HA.out, rfl⟩
set_option maxHeartbeats 4000000 in
set_option maxRecDepth 100000 in
theorem netWithL_yes (n : Nat) (R : Nat → Nat → Nat) (hR : OkR n R) (i k r : Nat) (hi : i < n) (hk : k < n) (hne : i ≠ k) (hr : r < 8192) (w : World) (hT : TB w) :
    Calls Tryd.prog 50 #[.agg #[.int .i64 n, .string (netS n R)], .int .i64 i, .int .i64 k, .int .i64 r, .func (.func 56) #[] #[]] w fun e w' => e = .returned (.tuple #[.agg #[.int .i64 n, .string (netS n (putR R i k (R i k &&& r)))], .bool true]) ∧ Below w.heap.size w w' := by
  have HNO := hid (networkOf_yes n R hR)
  have HD := hid (show difB (n : Int) (i : Int) (k : Int) = true by
    simp only [difB, hasB_in hi, hasB_in hk]
    have : ((k : Int) == (i : Int)) = false := by rw [beq_eq_false_iff_ne]; omega
    rw [this]; rfl)
  have HV := hid (rv_nat r hr)
  have hv8 : (R i k &&& r) < 8192 := by first | exact hr | exact and_lt (hR.lt i k)
  have HCL := hid (closL_any R i k r hr (hR.lt i k))
  have HNT := hid (net_any n hR.le (putR R i k (R i k &&& r)) (putR_ok hR hi hk hne hv8).lt)
  have i6 : i < 6 := by have := hR.le; omega
  have k6 : k < 6 := by have := hR.le; omega
  clear hR
  generalize netS n (putR R i k (R i k &&& r)) = t at *
  generalize netS n R = s at *
  have HK := hid (show Nk ((w.alloc (.cells #[.int .i64 (n : Int), .string s] 24)).alloc (.cells #[.int .i64 0, .string ⟨#[]⟩] 24)) (w.heap.size + 1) 0 ⟨#[]⟩ by
    have h := Nk.made (w.alloc (.cells #[.int .i64 (n : Int), .string s] 24)) 0 ⟨#[]⟩
    rw [World.size_alloc] at h
    exact h)
  have HB := hid (((Below.refl w.heap.size w).alloc (Nat.le_refl _) (.cells #[.int .i64 (n : Int), .string s] 24)).alloc (by simp) (.cells #[.int .i64 0, .string ⟨#[]⟩] 24))
  have hz : Hid (((w.alloc (.cells #[.int .i64 (n : Int), .string s] 24)).alloc (.cells #[.int .i64 0, .string ⟨#[]⟩] 24)).heap.size = w.heap.size + 1 + 1) := hid (by rw [World.size_alloc, World.size_alloc])
  have HT0 := hid hT
  have HT := hid (hT.below HB.out)
  clear hT
  have HS := AllLt.start w; go_enter Tryd.func50, Tryd.ntmps50
  go_wp2_with fail
  (with_reducible refine (HNO.out _ HT.out).mono ?_)
  rintro e w1 ⟨rfl, hb⟩
  have HB1 := hid (HB.out.trans (hb.mono HB.out.size))
  have HK1 := hid (HK.out.below hb HK.out.lt)
  have hz1 : w.heap.size + 1 + 1 ≤ w1.heap.size := by have := hb.size; have := hz.out; omega
  have HB2 := hid (below_setRow (HB1.out.alloc HB1.out.size (.cells (netV 0 fun _ _ => 0) 63)) HB1.out.size (netV n R))
  have HK2 := hid (show Nk ((w1.alloc (.cells (netV 0 fun _ _ => 0) 63)).setRow w1.heap.size (netV n R)) (w.heap.size + 1) 0 ⟨#[]⟩ from by
    unfold Nk World.setRow
    rw [Array.getElem?_modify, if_neg (by omega)]
    exact (Below.heap_alloc w1 _ _ HK1.out.lt).trans HK1.out)
  have HN2 := hid ((NB.made w1 0 fun _ _ => 0).row n R)
  clear hb
  go_upto_region 2 with (first | refine al_net rfl rfl ?_ | refine st_net rfl _ _ rfl rfl rfl (NB.made w1 0 fun _ _ => 0) ?_)
  generalize (w1.alloc (.cells (netV 0 fun _ _ => 0) 63)).setRow w1.heap.size (netV n R) = w2 at *
  generalize w1.heap.size = N at *
  have n0 := HN2.out.cell0
  have hgN : w.heap.size + 1 + 1 ≤ N := hz1
  go_upto_region 4 with (first | (go_at_call 92; (with_reducible refine (hasDifferent_any n i k w2.heap.size _ (by simp [go_sem]) (by simp [go_sem]) (by simp)).mono ?_); rintro e w4 ⟨rfl, hb4⟩; rw [HD.out]; have hb4 : Below w2.heap.size w2 w4 := ((Below.refl w2.heap.size w2).alloc (Nat.le_refl _) _).trans (hb4.mono (by simp)); have HK4 := hid (HK2.out.below hb4 HK2.out.lt); have HB4 := hid (HB2.out.trans (hb4.mono HB2.out.size)); have HN4 := hid (HN2.out.below' hb4); clear hb4) | (go_at_call 45; (with_reducible refine (iRelValid_any _ _).mono ?_); rintro e w' ⟨rfl, rfl⟩; rw [HV.out]))
  go_wp2_with (refine ld_net rfl _ rfl rfl HN4.out ?_)
  (with_reducible refine (edge_any n R i k i6 k6 _).mono ?_)
  rintro e w5 ⟨rfl, hb⟩
  have HK5 := hid (HK4.out.below hb HK4.out.lt)
  have HB5 := hid (HB4.out.trans (hb.mono HB4.out.size))
  have HN5 := hid (HN4.out.below' hb)
  clear hb
  generalize hMM : R i k = M at *
  have HMM := hid hMM
  clear hMM
  obtain ⟨m0, m1, m2⟩ := new_cell3 w5 (.int .i64 i) (.int .i64 ((M : Nat) : Int)) (.int .i64 k) 68
  have mf := frozen_of_row (w5.alloc (.cells #[.int .i64 i, .int .i64 ((M : Nat) : Int), .int .i64 k] 68)) w5.heap.size 1 _ _ (heap_alloc_new w5 _)
  have HK6 := hid (nk_alloc0 HK5.out (.cells #[.int .i64 i, .int .i64 ((M : Nat) : Int), .int .i64 k] 68))
  have HB6 := hid (HB5.out.alloc HB5.out.size (.cells #[.int .i64 i, .int .i64 ((M : Nat) : Int), .int .i64 k] 68))
  have HN6 := hid (HN5.out.alloc (.cells #[.int .i64 i, .int .i64 ((M : Nat) : Int), .int .i64 k] 68))
  go_wp2_with (first | (go_at_call 56; (with_reducible refine (HCL.out _).mono ?_); rintro e w' ⟨rfl, rfl⟩))
  have HK6' := hid (nk_alloc0 HK5.out (.cells #[.int .i64 i, .int .i64 (((M &&& r) : Nat) : Int), .int .i64 k] 68))
  have HB6' := hid (HB5.out.alloc HB5.out.size (.cells #[.int .i64 i, .int .i64 (((M &&& r) : Nat) : Int), .int .i64 k] 68))
  have HN6' := hid (HN5.out.alloc (.cells #[.int .i64 i, .int .i64 (((M &&& r) : Nat) : Int), .int .i64 k] 68))
  clear HK6 HB6 HN6
  generalize w5.alloc (.cells #[.int .i64 i, .int .i64 (((M &&& r) : Nat) : Int), .int .i64 k] 68) = w6 at *
  (with_reducible refine (put_any N n R i (M &&& r) k i6 k6 hv8 _ (HT0.out.below HB6'.out) HN6'.out).mono ?_)
  rintro e w7 ⟨rfl, hn7, hw7⟩
  have HN7 := hid hn7
  have HK7 := hid (show Nk w7 (w.heap.size + 1) 0 ⟨#[]⟩ from (hw7.block _ HK6'.out.lt (by omega)).trans HK6'.out)
  have HB7 := hid (HB6'.out.trans (hw7.below (B := w.heap.size) (by omega) HB6'.out.size))
  clear hn7 hw7 m0 m1 m2 mf
  go_wp2_with (refine ld_net rfl _ rfl rfl HN7.out ?_)
  (with_reducible refine (HNT.out _).mono ?_)
  rintro e w8 ⟨rfl, hb⟩
  have HKr := hid (HK7.out.below hb HK7.out.lt)
  have HBr := hid (HB7.out.trans (hb.mono HB7.out.size))
  clear hb
  have r0 := HKr.out.c0
  have r1 := HKr.out.c1
  have rf0 := HKr.out.fr 0
  have rf1 := HKr.out.fr 1
  go_wp2_with fail
  refine bodyPost_ret (by simp [results, Tryd.results50, go_sem, *]; try rfl) rfl ?_
  exact ⟨rfl, (HBr.out.setCell (p := ⟨w.heap.size + 1, 0, none⟩) (by simp) _).setCell (p := ⟨w.heap.size + 1, 1, none⟩) (by simp) _⟩
set_option maxHeartbeats 1000000 in
theorem iPutRel_off (z : Int) (s : ByteArray) (i k r : Int) (h : ∀ (c : Value) (w : World), TB w → Calls Tryd.prog 50 #[.agg #[.int .i64 z, .string s], .int .i64 i, .int .i64 k, .int .i64 r, c] w fun e w' => e = .returned (.tuple #[.agg #[.int .i64 0, .string ⟨#[]⟩], .bool false]) ∧ Below w.heap.size w w') (w : World) (hT : TB w) :
    Calls Tryd.prog 15 #[.agg #[.int .i64 z, .string s], .int .i64 i, .int .i64 k, .int .i64 r] w fun e w' => e = .returned (.tuple #[.agg #[.int .i64 0, .string ⟨#[]⟩], .bool false]) ∧ Below w.heap.size w w' := by
  have HC := hid h
  clear h
  have HK := hid (show Nk ((w.alloc (.cells #[.int .i64 z, .string s] 24)).alloc (.cells #[.int .i64 0, .string ⟨#[]⟩] 24)) (w.heap.size + 1) 0 ⟨#[]⟩ by
    have h := Nk.made (w.alloc (.cells #[.int .i64 z, .string s] 24)) 0 ⟨#[]⟩
    rw [World.size_alloc] at h
    exact h)
  have HB := hid (((Below.refl w.heap.size w).alloc (Nat.le_refl _) (.cells #[.int .i64 z, .string s] 24)).alloc (by simp) (.cells #[.int .i64 0, .string ⟨#[]⟩] 24))
  have HT := hid (hT.below HB.out)
  clear hT
  have HS := AllLt.start w; go_enter Tryd.func15, Tryd.ntmps15
  go_wp2_with fail
  (with_reducible refine (HC.out _ _ HT.out).mono ?_)
  rintro e w1 ⟨rfl, hb⟩
  have HKr := hid (HK.out.below hb HK.out.lt)
  have HBr := hid (HB.out.trans (hb.mono HB.out.size))
  clear hb
  have r0 := HKr.out.c0
  have r1 := HKr.out.c1
  have rf0 := HKr.out.fr 0
  have rf1 := HKr.out.fr 1
  go_wp2_with fail
  refine bodyPost_ret (by simp [results, Tryd.results15, go_sem, *]; try rfl) rfl ?_
  exact ⟨rfl, (HBr.out.setCell (p := ⟨w.heap.size + 1, 0, none⟩) (by simp) _).setCell (p := ⟨w.heap.size + 1, 1, none⟩) (by simp) _⟩
set_option maxHeartbeats 1000000 in
theorem iPutRel_on (n : Nat) (R : Nat → Nat → Nat) (hR : OkR n R) (i k r : Nat) (hi : i < n) (hk : k < n) (hne : i ≠ k) (hr : r < 8192) (w : World) (hT : TB w) :
    Calls Tryd.prog 15 #[.agg #[.int .i64 n, .string (netS n R)], .int .i64 i, .int .i64 k, .int .i64 r] w fun e w' => e = .returned (.tuple #[.agg #[.int .i64 n, .string (netS n (putR R i k r))], .bool true]) ∧ Below w.heap.size w w' := by
  have HC := hid (netWithP_yes n R hR i k r hi hk hne hr)
  clear hR
  generalize netS n (putR R i k r) = t at *
  generalize netS n R = s at *
  have HK := hid (show Nk ((w.alloc (.cells #[.int .i64 (n : Int), .string s] 24)).alloc (.cells #[.int .i64 0, .string ⟨#[]⟩] 24)) (w.heap.size + 1) 0 ⟨#[]⟩ by
    have h := Nk.made (w.alloc (.cells #[.int .i64 (n : Int), .string s] 24)) 0 ⟨#[]⟩
    rw [World.size_alloc] at h
    exact h)
  have HB := hid (((Below.refl w.heap.size w).alloc (Nat.le_refl _) (.cells #[.int .i64 (n : Int), .string s] 24)).alloc (by simp) (.cells #[.int .i64 0, .string ⟨#[]⟩] 24))
  have HT := hid (hT.below HB.out)
  clear hT
  have HS := AllLt.start w; go_enter Tryd.func15, Tryd.ntmps15
  go_wp2_with fail
  (with_reducible refine (HC.out _ HT.out).mono ?_)
  rintro e w1 ⟨rfl, hb⟩
  have HKr := hid (HK.out.below hb HK.out.lt)
  have HBr := hid (HB.out.trans (hb.mono HB.out.size))
  clear hb
  have r0 := HKr.out.c0
  have r1 := HKr.out.c1
  have rf0 := HKr.out.fr 0
  have rf1 := HKr.out.fr 1
  go_wp2_with fail
  refine bodyPost_ret (by simp [results, Tryd.results15, go_sem, *]; try rfl) rfl ?_
  exact ⟨rfl, (HBr.out.setCell (p := ⟨w.heap.size + 1, 0, none⟩) (by simp) _).setCell (p := ⟨w.heap.size + 1, 1, none⟩) (by simp) _⟩
set_option maxHeartbeats 1000000 in
theorem iLimitRel_off (z : Int) (s : ByteArray) (i k r : Int) (h : ∀ (c : Value) (w : World), TB w → Calls Tryd.prog 50 #[.agg #[.int .i64 z, .string s], .int .i64 i, .int .i64 k, .int .i64 r, c] w fun e w' => e = .returned (.tuple #[.agg #[.int .i64 0, .string ⟨#[]⟩], .bool false]) ∧ Below w.heap.size w w') (w : World) (hT : TB w) :
    Calls Tryd.prog 17 #[.agg #[.int .i64 z, .string s], .int .i64 i, .int .i64 k, .int .i64 r] w fun e w' => e = .returned (.tuple #[.agg #[.int .i64 0, .string ⟨#[]⟩], .bool false]) ∧ Below w.heap.size w w' := by
  have HC := hid h
  clear h
  have HK := hid (show Nk ((w.alloc (.cells #[.int .i64 z, .string s] 24)).alloc (.cells #[.int .i64 0, .string ⟨#[]⟩] 24)) (w.heap.size + 1) 0 ⟨#[]⟩ by
    have h := Nk.made (w.alloc (.cells #[.int .i64 z, .string s] 24)) 0 ⟨#[]⟩
    rw [World.size_alloc] at h
    exact h)
  have HB := hid (((Below.refl w.heap.size w).alloc (Nat.le_refl _) (.cells #[.int .i64 z, .string s] 24)).alloc (by simp) (.cells #[.int .i64 0, .string ⟨#[]⟩] 24))
  have HT := hid (hT.below HB.out)
  clear hT
  have HS := AllLt.start w; go_enter Tryd.func17, Tryd.ntmps17
  go_wp2_with fail
  (with_reducible refine (HC.out _ _ HT.out).mono ?_)
  rintro e w1 ⟨rfl, hb⟩
  have HKr := hid (HK.out.below hb HK.out.lt)
  have HBr := hid (HB.out.trans (hb.mono HB.out.size))
  clear hb
  have r0 := HKr.out.c0
  have r1 := HKr.out.c1
  have rf0 := HKr.out.fr 0
  have rf1 := HKr.out.fr 1
  go_wp2_with fail
  refine bodyPost_ret (by simp [results, Tryd.results17, go_sem, *]; try rfl) rfl ?_
  exact ⟨rfl, (HBr.out.setCell (p := ⟨w.heap.size + 1, 0, none⟩) (by simp) _).setCell (p := ⟨w.heap.size + 1, 1, none⟩) (by simp) _⟩
set_option maxHeartbeats 1000000 in
theorem iLimitRel_on (n : Nat) (R : Nat → Nat → Nat) (hR : OkR n R) (i k r : Nat) (hi : i < n) (hk : k < n) (hne : i ≠ k) (hr : r < 8192) (w : World) (hT : TB w) :
    Calls Tryd.prog 17 #[.agg #[.int .i64 n, .string (netS n R)], .int .i64 i, .int .i64 k, .int .i64 r] w fun e w' => e = .returned (.tuple #[.agg #[.int .i64 n, .string (netS n (putR R i k (R i k &&& r)))], .bool true]) ∧ Below w.heap.size w w' := by
  have HC := hid (netWithL_yes n R hR i k r hi hk hne hr)
  clear hR
  generalize netS n (putR R i k (R i k &&& r)) = t at *
  generalize netS n R = s at *
  have HK := hid (show Nk ((w.alloc (.cells #[.int .i64 (n : Int), .string s] 24)).alloc (.cells #[.int .i64 0, .string ⟨#[]⟩] 24)) (w.heap.size + 1) 0 ⟨#[]⟩ by
    have h := Nk.made (w.alloc (.cells #[.int .i64 (n : Int), .string s] 24)) 0 ⟨#[]⟩
    rw [World.size_alloc] at h
    exact h)
  have HB := hid (((Below.refl w.heap.size w).alloc (Nat.le_refl _) (.cells #[.int .i64 (n : Int), .string s] 24)).alloc (by simp) (.cells #[.int .i64 0, .string ⟨#[]⟩] 24))
  have HT := hid (hT.below HB.out)
  clear hT
  have HS := AllLt.start w; go_enter Tryd.func17, Tryd.ntmps17
  go_wp2_with fail
  (with_reducible refine (HC.out _ HT.out).mono ?_)
  rintro e w1 ⟨rfl, hb⟩
  have HKr := hid (HK.out.below hb HK.out.lt)
  have HBr := hid (HB.out.trans (hb.mono HB.out.size))
  clear hb
  have r0 := HKr.out.c0
  have r1 := HKr.out.c1
  have rf0 := HKr.out.fr 0
  have rf1 := HKr.out.fr 1
  go_wp2_with fail
  refine bodyPost_ret (by simp [results, Tryd.results17, go_sem, *]; try rfl) rfl ?_
  exact ⟨rfl, (HBr.out.setCell (p := ⟨w.heap.size + 1, 0, none⟩) (by simp) _).setCell (p := ⟨w.heap.size + 1, 1, none⟩) (by simp) _⟩
end
section
open Go.RowKit
set_option linter.unusedVariables false
set_option linter.unusedSimpArgs false
theorem updL_lt {L : Nat → Nat} {j r : Nat} (h : ∀ x, L x < 8192) (hr : r < 8192) (x : Nat) : updL L j r x < 8192 := by
  unfold updL; split
  · exact hr
  · exact h x
set_option maxHeartbeats 1000000 in
theorem sPutRel_nod (z : Int) (s : ByteArray) (i k r : Int) (h : nodB z s i k = false) (w : World) :
    Calls Tryd.prog 16 #[.agg #[.int .i64 z, .string s], .int .i64 i, .int .i64 k, .int .i64 r] w fun e w' => e = .returned (.tuple #[.agg #[.int .i64 0, .string ⟨#[]⟩], .bool false]) ∧ Below w.heap.size w w' := by
  have HN := hid h
  clear h
  have HK := hid (show Nk ((w.alloc (.cells #[.int .i64 z, .string s] 24)).alloc (.cells #[.int .i64 0, .string ⟨#[]⟩] 24)) (w.heap.size + 1) 0 ⟨#[]⟩ by
    have h := Nk.made (w.alloc (.cells #[.int .i64 z, .string s] 24)) 0 ⟨#[]⟩
    rw [World.size_alloc] at h
    exact h)
  have HKs := hid (nk_alloc (Nk.made w z s) (.cells #[.int .i64 0, .string ⟨#[]⟩] 24))
  have HB := hid (((Below.refl w.heap.size w).alloc (Nat.le_refl _) (.cells #[.int .i64 z, .string s] 24)).alloc (by simp) (.cells #[.int .i64 0, .string ⟨#[]⟩] 24))
  have HS := AllLt.start w; go_enter Tryd.func16, Tryd.ntmps16
  go_wp2_with (first | (go_at_call 39; (with_reducible refine (l5Nodes_any z s i k _).mono ?_); rintro e w1 ⟨rfl, hb⟩; rw [HN.out]; have HB1 := hid (HB.out.trans (hb.mono HB.out.size)); have HK1 := hid (HK.out.below hb HK.out.lt); have HKs1 := hid (HKs.out.below hb HKs.out.lt); have s0 := HKs1.out.c0; have s1 := HKs1.out.c1; have r0 := HK1.out.c0; have r1 := HK1.out.c1; have rf0 := HK1.out.fr 0; have rf1 := HK1.out.fr 1; clear hb))
  refine bodyPost_ret (by simp [results, Tryd.results16, go_sem, *]; try rfl) rfl ?_
  exact ⟨rfl, (HB1.out.setCell (p := ⟨w.heap.size + 1, 0, none⟩) (by simp) _).setCell (p := ⟨w.heap.size + 1, 1, none⟩) (by simp) _⟩
set_option maxHeartbeats 1000000 in
theorem sPutRel_eq (z : Int) (s : ByteArray) (i k r : Int) (h : nodB z s i k = true) (hk : (i == k) = true) (w : World) :
    Calls Tryd.prog 16 #[.agg #[.int .i64 z, .string s], .int .i64 i, .int .i64 k, .int .i64 r] w fun e w' => e = .returned (.tuple #[.agg #[.int .i64 0, .string ⟨#[]⟩], .bool false]) ∧ Below w.heap.size w w' := by
  have HN := hid h
  clear h
  have HK := hid (show Nk ((w.alloc (.cells #[.int .i64 z, .string s] 24)).alloc (.cells #[.int .i64 0, .string ⟨#[]⟩] 24)) (w.heap.size + 1) 0 ⟨#[]⟩ by
    have h := Nk.made (w.alloc (.cells #[.int .i64 z, .string s] 24)) 0 ⟨#[]⟩
    rw [World.size_alloc] at h
    exact h)
  have HKs := hid (nk_alloc (Nk.made w z s) (.cells #[.int .i64 0, .string ⟨#[]⟩] 24))
  have HB := hid (((Below.refl w.heap.size w).alloc (Nat.le_refl _) (.cells #[.int .i64 z, .string s] 24)).alloc (by simp) (.cells #[.int .i64 0, .string ⟨#[]⟩] 24))
  have HS := AllLt.start w; go_enter Tryd.func16, Tryd.ntmps16
  go_wp2_with (first | (go_at_call 39; (with_reducible refine (l5Nodes_any z s i k _).mono ?_); rintro e w1 ⟨rfl, hb⟩; rw [HN.out]; have HB1 := hid (HB.out.trans (hb.mono HB.out.size)); have HK1 := hid (HK.out.below hb HK.out.lt); have HKs1 := hid (HKs.out.below hb HKs.out.lt); have s0 := HKs1.out.c0; have s1 := HKs1.out.c1; have r0 := HK1.out.c0; have r1 := HK1.out.c1; have rf0 := HK1.out.fr 0; have rf1 := HK1.out.fr 1; clear hb))
  refine bodyPost_ret (by simp [results, Tryd.results16, go_sem, *]; try rfl) rfl ?_
  exact ⟨rfl, (HB1.out.setCell (p := ⟨w.heap.size + 1, 0, none⟩) (by simp) _).setCell (p := ⟨w.heap.size + 1, 1, none⟩) (by simp) _⟩
set_option maxHeartbeats 1000000 in
theorem sPutRel_rel (z : Int) (s : ByteArray) (i k r : Int) (h : nodB z s i k = true) (hk : (i == k) = false) (hv : rv r = false) (w : World) :
    Calls Tryd.prog 16 #[.agg #[.int .i64 z, .string s], .int .i64 i, .int .i64 k, .int .i64 r] w fun e w' => e = .returned (.tuple #[.agg #[.int .i64 0, .string ⟨#[]⟩], .bool false]) ∧ Below w.heap.size w w' := by
  have HN := hid h
  have HV := hid hv
  clear hv
  clear h
  have HK := hid (show Nk ((w.alloc (.cells #[.int .i64 z, .string s] 24)).alloc (.cells #[.int .i64 0, .string ⟨#[]⟩] 24)) (w.heap.size + 1) 0 ⟨#[]⟩ by
    have h := Nk.made (w.alloc (.cells #[.int .i64 z, .string s] 24)) 0 ⟨#[]⟩
    rw [World.size_alloc] at h
    exact h)
  have HKs := hid (nk_alloc (Nk.made w z s) (.cells #[.int .i64 0, .string ⟨#[]⟩] 24))
  have HB := hid (((Below.refl w.heap.size w).alloc (Nat.le_refl _) (.cells #[.int .i64 z, .string s] 24)).alloc (by simp) (.cells #[.int .i64 0, .string ⟨#[]⟩] 24))
  have HS := AllLt.start w; go_enter Tryd.func16, Tryd.ntmps16
  go_wp2_with (first | (go_at_call 39; (with_reducible refine (l5Nodes_any z s i k _).mono ?_); rintro e w1 ⟨rfl, hb⟩; rw [HN.out]; have HB1 := hid (HB.out.trans (hb.mono HB.out.size)); have HK1 := hid (HK.out.below hb HK.out.lt); have HKs1 := hid (HKs.out.below hb HKs.out.lt); have s0 := HKs1.out.c0; have s1 := HKs1.out.c1; have r0 := HK1.out.c0; have r1 := HK1.out.c1; have rf0 := HK1.out.fr 0; have rf1 := HK1.out.fr 1; clear hb) | (go_at_call 52; (with_reducible refine (sRelValid_any _ _).mono ?_); rintro e w' ⟨rfl, rfl⟩; rw [HV.out]))
  refine bodyPost_ret (by simp [results, Tryd.results16, go_sem, *]; try rfl) rfl ?_
  exact ⟨rfl, (HB1.out.setCell (p := ⟨w.heap.size + 1, 0, none⟩) (by simp) _).setCell (p := ⟨w.heap.size + 1, 1, none⟩) (by simp) _⟩
set_option maxHeartbeats 2000000 in
theorem sPutRel_on (n : Nat) (R : Nat → Nat → Nat) (hR : OkR n R) (i k r : Nat) (hi : i < n) (hk : k < n) (hne : i ≠ k) (hr : r < 8192) (w : World) :
    Calls Tryd.prog 16 #[.agg #[.int .i64 n, .string (netS n R)], .int .i64 i, .int .i64 k, .int .i64 r] w fun e w' => e = .returned (.tuple #[.agg #[.int .i64 n, .string (netS n (putR R i k r))], .bool true]) ∧ Below w.heap.size w w' := by
  have HN := hid (show nodB n (netS n R) i k = true by simp [nodB, hasB_in hi, hasB_in hk, nv_net hR])
  have hik : ((i : Int) == (k : Int)) = false := by rw [beq_eq_false_iff_ne]; omega
  have HV := hid (rv_nat r hr)
  have HOP := hid (l5Open_any n hR.le R hR.lt)
  have h36 : n * n ≤ 36 := Nat.mul_le_mul hR.le hR.le
  have HLT := hid (updL_lt (j := k * n + i) (r := turN r) (updL_lt (L := fun x => R (x / n) (x % n)) (j := i * n + k) (r := r) (fun x => hR.lt _ _) hr) (turN_lt r))
  have HPT := hid (fun (b : Nat) (u : Value) (w : World) h => l5Put_any n hR.le (fun x => R (x / n) (x % n)) i k r hi hk hr b u w h)
  have HCT := hid (show catB (updL (updL (fun x => R (x / n) (x % n)) (i * n + k) r) (k * n + i) (turN r)) (n * n) = netS n (putR R i k r) by
    rw [← catB_net]
    unfold catB
    congr 2
    apply congrArg catD
    apply List.map_congr_left
    intro x hx
    exact put_row hi hk hne (List.mem_range.1 hx))
  have HLX := hid (show ∀ (v : Value) (w : World), Ts w w.heap.size v (n * n) (updL (updL (fun x => R (x / n) (x % n)) (i * n + k) r) (k * n + i) (turN r)) → Calls Tryd.prog 53 #[.agg #[.int .i64 n, v]] w fun e w' => e = .returned (.agg #[.int .i64 n, .string (netS n (putR R i k r))]) ∧ Below w.heap.size w w' from fun v w h => by
    have := l5Close_any n v (n * n) h36 _ (fun x _ => HLT.out x) w h
    rw [HCT.out] at this
    exact this)
  clear hR HLT HCT hne
  generalize netS n (putR R i k r) = t at *
  generalize netS n R = s at *
  have HK := hid (show Nk ((w.alloc (.cells #[.int .i64 (n : Int), .string s] 24)).alloc (.cells #[.int .i64 0, .string ⟨#[]⟩] 24)) (w.heap.size + 1) 0 ⟨#[]⟩ by
    have h := Nk.made (w.alloc (.cells #[.int .i64 (n : Int), .string s] 24)) 0 ⟨#[]⟩
    rw [World.size_alloc] at h
    exact h)
  have HKs := hid (nk_alloc (Nk.made w (n : Int) s) (.cells #[.int .i64 0, .string ⟨#[]⟩] 24))
  have HB := hid (((Below.refl w.heap.size w).alloc (Nat.le_refl _) (.cells #[.int .i64 (n : Int), .string s] 24)).alloc (by simp) (.cells #[.int .i64 0, .string ⟨#[]⟩] 24))
  have HS := AllLt.start w; go_enter Tryd.func16, Tryd.ntmps16
  go_wp2_with (first | (go_at_call 39; (with_reducible refine (l5Nodes_any (n : Int) s i k _).mono ?_); rintro e w1 ⟨rfl, hb⟩; rw [HN.out]; have HB1 := hid (HB.out.trans (hb.mono HB.out.size)); have HK1 := hid (HK.out.below hb HK.out.lt); have HKs1 := hid (HKs.out.below hb HKs.out.lt); have s0 := HKs1.out.c0; have s1 := HKs1.out.c1; have r0 := HK1.out.c0; have r1 := HK1.out.c1; have rf0 := HK1.out.fr 0; have rf1 := HK1.out.fr 1; clear hb) | (go_at_call 52; (with_reducible refine (sRelValid_any _ _).mono ?_); rintro e w' ⟨rfl, rfl⟩; rw [HV.out]))
  (with_reducible refine (HOP.out _).mono ?_)
  rintro e w2 ⟨⟨u, rfl, hown⟩, hb⟩
  have HB2 := hid (HB1.out.trans (hb.mono HB1.out.size))
  have HK2 := hid (HK1.out.below hb HK1.out.lt)
  clear hb s0 s1 r0 r1 rf0 rf1
  go_wp2_with fail
  (with_reducible refine (HPT.out _ u w2 hown).mono ?_)
  rintro e w3 ⟨⟨u', rfl, hown3⟩, hb⟩
  have HB3 := hid (HB2.out.trans (hb.mono HB2.out.size))
  have HK3 := hid (HK2.out.below hb HK2.out.lt)
  clear hb hown
  go_wp2_with fail
  (with_reducible refine (HLX.out u' w3 (Ts.of_own hown3)).mono ?_)
  rintro e w4 ⟨rfl, hb⟩
  have HB4 := hid (HB3.out.trans (hb.mono HB3.out.size))
  have HK4 := hid (HK3.out.below hb HK3.out.lt)
  have r0 := HK4.out.c0
  have r1 := HK4.out.c1
  have rf0 := HK4.out.fr 0
  have rf1 := HK4.out.fr 1
  clear hb hown3
  go_wp2_with fail
  refine bodyPost_ret (by simp [results, Tryd.results16, go_sem, *]; try rfl) rfl ?_
  exact ⟨rfl, (HB4.out.setCell (p := ⟨w.heap.size + 1, 0, none⟩) (by simp) _).setCell (p := ⟨w.heap.size + 1, 1, none⟩) (by simp) _⟩
set_option maxHeartbeats 1000000 in
theorem sLimitRel_nod (z : Int) (s : ByteArray) (i k r : Int) (h : nodB z s i k = false) (w : World) :
    Calls Tryd.prog 18 #[.agg #[.int .i64 z, .string s], .int .i64 i, .int .i64 k, .int .i64 r] w fun e w' => e = .returned (.tuple #[.agg #[.int .i64 0, .string ⟨#[]⟩], .bool false]) ∧ Below w.heap.size w w' := by
  have HN := hid h
  clear h
  have HK := hid (show Nk ((w.alloc (.cells #[.int .i64 z, .string s] 24)).alloc (.cells #[.int .i64 0, .string ⟨#[]⟩] 24)) (w.heap.size + 1) 0 ⟨#[]⟩ by
    have h := Nk.made (w.alloc (.cells #[.int .i64 z, .string s] 24)) 0 ⟨#[]⟩
    rw [World.size_alloc] at h
    exact h)
  have HKs := hid (nk_alloc (Nk.made w z s) (.cells #[.int .i64 0, .string ⟨#[]⟩] 24))
  have HB := hid (((Below.refl w.heap.size w).alloc (Nat.le_refl _) (.cells #[.int .i64 z, .string s] 24)).alloc (by simp) (.cells #[.int .i64 0, .string ⟨#[]⟩] 24))
  have HS := AllLt.start w; go_enter Tryd.func18, Tryd.ntmps18
  go_wp2_with (first | (go_at_call 39; (with_reducible refine (l5Nodes_any z s i k _).mono ?_); rintro e w1 ⟨rfl, hb⟩; rw [HN.out]; have HB1 := hid (HB.out.trans (hb.mono HB.out.size)); have HK1 := hid (HK.out.below hb HK.out.lt); have HKs1 := hid (HKs.out.below hb HKs.out.lt); have s0 := HKs1.out.c0; have s1 := HKs1.out.c1; have r0 := HK1.out.c0; have r1 := HK1.out.c1; have rf0 := HK1.out.fr 0; have rf1 := HK1.out.fr 1; clear hb))
  refine bodyPost_ret (by simp [results, Tryd.results18, go_sem, *]; try rfl) rfl ?_
  exact ⟨rfl, (HB1.out.setCell (p := ⟨w.heap.size + 1, 0, none⟩) (by simp) _).setCell (p := ⟨w.heap.size + 1, 1, none⟩) (by simp) _⟩
set_option maxHeartbeats 1000000 in
theorem sLimitRel_eq (z : Int) (s : ByteArray) (i k r : Int) (h : nodB z s i k = true) (hk : (i == k) = true) (w : World) :
    Calls Tryd.prog 18 #[.agg #[.int .i64 z, .string s], .int .i64 i, .int .i64 k, .int .i64 r] w fun e w' => e = .returned (.tuple #[.agg #[.int .i64 0, .string ⟨#[]⟩], .bool false]) ∧ Below w.heap.size w w' := by
  have HN := hid h
  clear h
  have HK := hid (show Nk ((w.alloc (.cells #[.int .i64 z, .string s] 24)).alloc (.cells #[.int .i64 0, .string ⟨#[]⟩] 24)) (w.heap.size + 1) 0 ⟨#[]⟩ by
    have h := Nk.made (w.alloc (.cells #[.int .i64 z, .string s] 24)) 0 ⟨#[]⟩
    rw [World.size_alloc] at h
    exact h)
  have HKs := hid (nk_alloc (Nk.made w z s) (.cells #[.int .i64 0, .string ⟨#[]⟩] 24))
  have HB := hid (((Below.refl w.heap.size w).alloc (Nat.le_refl _) (.cells #[.int .i64 z, .string s] 24)).alloc (by simp) (.cells #[.int .i64 0, .string ⟨#[]⟩] 24))
  have HS := AllLt.start w; go_enter Tryd.func18, Tryd.ntmps18
  go_wp2_with (first | (go_at_call 39; (with_reducible refine (l5Nodes_any z s i k _).mono ?_); rintro e w1 ⟨rfl, hb⟩; rw [HN.out]; have HB1 := hid (HB.out.trans (hb.mono HB.out.size)); have HK1 := hid (HK.out.below hb HK.out.lt); have HKs1 := hid (HKs.out.below hb HKs.out.lt); have s0 := HKs1.out.c0; have s1 := HKs1.out.c1; have r0 := HK1.out.c0; have r1 := HK1.out.c1; have rf0 := HK1.out.fr 0; have rf1 := HK1.out.fr 1; clear hb))
  refine bodyPost_ret (by simp [results, Tryd.results18, go_sem, *]; try rfl) rfl ?_
  exact ⟨rfl, (HB1.out.setCell (p := ⟨w.heap.size + 1, 0, none⟩) (by simp) _).setCell (p := ⟨w.heap.size + 1, 1, none⟩) (by simp) _⟩
set_option maxHeartbeats 1000000 in
theorem sLimitRel_rel (z : Int) (s : ByteArray) (i k r : Int) (h : nodB z s i k = true) (hk : (i == k) = false) (hv : rv r = false) (w : World) :
    Calls Tryd.prog 18 #[.agg #[.int .i64 z, .string s], .int .i64 i, .int .i64 k, .int .i64 r] w fun e w' => e = .returned (.tuple #[.agg #[.int .i64 0, .string ⟨#[]⟩], .bool false]) ∧ Below w.heap.size w w' := by
  have HN := hid h
  have HV := hid hv
  clear hv
  clear h
  have HK := hid (show Nk ((w.alloc (.cells #[.int .i64 z, .string s] 24)).alloc (.cells #[.int .i64 0, .string ⟨#[]⟩] 24)) (w.heap.size + 1) 0 ⟨#[]⟩ by
    have h := Nk.made (w.alloc (.cells #[.int .i64 z, .string s] 24)) 0 ⟨#[]⟩
    rw [World.size_alloc] at h
    exact h)
  have HKs := hid (nk_alloc (Nk.made w z s) (.cells #[.int .i64 0, .string ⟨#[]⟩] 24))
  have HB := hid (((Below.refl w.heap.size w).alloc (Nat.le_refl _) (.cells #[.int .i64 z, .string s] 24)).alloc (by simp) (.cells #[.int .i64 0, .string ⟨#[]⟩] 24))
  have HS := AllLt.start w; go_enter Tryd.func18, Tryd.ntmps18
  go_wp2_with (first | (go_at_call 39; (with_reducible refine (l5Nodes_any z s i k _).mono ?_); rintro e w1 ⟨rfl, hb⟩; rw [HN.out]; have HB1 := hid (HB.out.trans (hb.mono HB.out.size)); have HK1 := hid (HK.out.below hb HK.out.lt); have HKs1 := hid (HKs.out.below hb HKs.out.lt); have s0 := HKs1.out.c0; have s1 := HKs1.out.c1; have r0 := HK1.out.c0; have r1 := HK1.out.c1; have rf0 := HK1.out.fr 0; have rf1 := HK1.out.fr 1; clear hb) | (go_at_call 52; (with_reducible refine (sRelValid_any _ _).mono ?_); rintro e w' ⟨rfl, rfl⟩; rw [HV.out]))
  refine bodyPost_ret (by simp [results, Tryd.results18, go_sem, *]; try rfl) rfl ?_
  exact ⟨rfl, (HB1.out.setCell (p := ⟨w.heap.size + 1, 0, none⟩) (by simp) _).setCell (p := ⟨w.heap.size + 1, 1, none⟩) (by simp) _⟩
set_option maxHeartbeats 2000000 in
theorem sLimitRel_on (n : Nat) (R : Nat → Nat → Nat) (hR : OkR n R) (i k r : Nat) (hi : i < n) (hk : k < n) (hne : i ≠ k) (hr : r < 8192) (w : World) :
    Calls Tryd.prog 18 #[.agg #[.int .i64 n, .string (netS n R)], .int .i64 i, .int .i64 k, .int .i64 r] w fun e w' => e = .returned (.tuple #[.agg #[.int .i64 n, .string (netS n (putR R i k (r &&& R i k)))], .bool true]) ∧ Below w.heap.size w w' := by
  have HN := hid (show nodB n (netS n R) i k = true by simp [nodB, hasB_in hi, hasB_in hk, nv_net hR])
  have hik : ((i : Int) == (k : Int)) = false := by rw [beq_eq_false_iff_ne]; omega
  have HV := hid (rv_nat r hr)
  have hand := i64_and r (R i k) hr (hR.lt i k)
  have HRI := hid (rinI_in hR hi hk)
  have HPU := hid (sPutRel_on n R hR i k (r &&& R i k) hi hk hne (and_lt hr))
  clear hR hne
  generalize netS n (putR R i k (r &&& R i k)) = t at *
  generalize R i k = M at *
  generalize netS n R = s at *
  have HK := hid (show Nk ((w.alloc (.cells #[.int .i64 (n : Int), .string s] 24)).alloc (.cells #[.int .i64 0, .string ⟨#[]⟩] 24)) (w.heap.size + 1) 0 ⟨#[]⟩ by
    have h := Nk.made (w.alloc (.cells #[.int .i64 (n : Int), .string s] 24)) 0 ⟨#[]⟩
    rw [World.size_alloc] at h
    exact h)
  have HKs := hid (nk_alloc (Nk.made w (n : Int) s) (.cells #[.int .i64 0, .string ⟨#[]⟩] 24))
  have HB := hid (((Below.refl w.heap.size w).alloc (Nat.le_refl _) (.cells #[.int .i64 (n : Int), .string s] 24)).alloc (by simp) (.cells #[.int .i64 0, .string ⟨#[]⟩] 24))
  have HS := AllLt.start w; go_enter Tryd.func18, Tryd.ntmps18
  go_upto_region 3 with (first | (go_at_call 39; (with_reducible refine (l5Nodes_any (n : Int) s i k _).mono ?_); rintro e w1 ⟨rfl, hb⟩; rw [HN.out]; have HB1 := hid (HB.out.trans (hb.mono HB.out.size)); have HK1 := hid (HK.out.below hb HK.out.lt); have HKs1 := hid (HKs.out.below hb HKs.out.lt); have s0 := HKs1.out.c0; have s1 := HKs1.out.c1; have r0 := HK1.out.c0; have r1 := HK1.out.c1; have rf0 := HK1.out.fr 0; have rf1 := HK1.out.fr 1; clear hb) | (go_at_call 52; (with_reducible refine (sRelValid_any _ _).mono ?_); rintro e w' ⟨rfl, rfl⟩; rw [HV.out]))
  go_region_with (first | (go_at_call 9; (with_reducible refine (sRelIn_any (n : Int) s i k _).mono ?_); rintro e w4 ⟨rfl, hb⟩; rw [HRI.out]; have hb : Below w1.heap.size w1 w4 := (Below.refl w1.heap.size w1).drew.trans hb; have HB4 := hid (HB1.out.trans (hb.mono HB1.out.size)); have HK4 := hid (HK1.out.below hb HK1.out.lt); have HKs4 := hid (HKs1.out.below hb HKs1.out.lt); have s4 := HKs4.out.c0; have s5 := HKs4.out.c1; clear hb) | (go_at_call 16; (with_reducible refine (HPU.out _).mono ?_); rintro e w5 ⟨rfl, hb⟩; have HB5 := hid (HB4.out.trans (hb.mono HB4.out.size)); have HK5 := hid (HK4.out.below hb HK4.out.lt); have q0 := HK5.out.c0; have q1 := HK5.out.c1; have qf0 := HK5.out.fr 0; have qf1 := HK5.out.fr 1; clear hb) | fail)
  all_goals
    go_wp2_with fail
    refine bodyPost_ret (by simp [results, Tryd.results18, go_sem, *]; try rfl) rfl ?_
    exact ⟨rfl, (HB5.out.setCell (p := ⟨w.heap.size + 1, 0, none⟩) (by simp) _).setCell (p := ⟨w.heap.size + 1, 1, none⟩) (by simp) _⟩
end
end Go.Proofs.YtnogdjmciekieabDoor.C
