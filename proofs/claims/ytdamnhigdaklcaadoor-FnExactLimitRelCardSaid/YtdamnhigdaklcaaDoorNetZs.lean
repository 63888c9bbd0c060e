/- Networks with another relation of two nodes: the model, the exact laws. -/
import Derived.Test.YtdamnhigdaklcaaDoorNetZ
namespace Go.Proofs.YtdamnhigdaklcaaDoor.C
open Go.RowKit
set_option linter.unusedVariables false
set_option linter.unusedSimpArgs false
theorem updL_lt {L : Nat → Nat} {j r : Nat} (h : ∀ x, L x < 8192) (hr : r < 8192) (x : Nat) : updL L j r x < 8192 := by
  unfold updL; split
  · exact hr
  · exact h x
set_option maxHeartbeats 1000000 in
theorem sPutRel_nod (z : Int) (s : ByteArray) (i k r : Int) (h : nodB z s i k = false) (w : World) :
    Calls Tryd.prog 20 #[.agg #[.int .i64 z, .string s], .int .i64 i, .int .i64 k, .int .i64 r] w fun e w' => e = .returned (.tuple #[.agg #[.int .i64 0, .string ⟨#[]⟩], .bool false]) ∧ Below w.heap.size w w' := by
  have HN := hid h
  clear h
  have HK := hid (show Nk ((w.alloc (.cells #[.int .i64 z, .string s] 26)).alloc (.cells #[.int .i64 0, .string ⟨#[]⟩] 26)) (w.heap.size + 1) 0 ⟨#[]⟩ by
    have h := Nk.made (w.alloc (.cells #[.int .i64 z, .string s] 26)) 0 ⟨#[]⟩
    rw [World.size_alloc] at h
    exact h)
  have HKs := hid (nk_alloc (Nk.made w z s) (.cells #[.int .i64 0, .string ⟨#[]⟩] 26))
  have HB := hid (((Below.refl w.heap.size w).alloc (Nat.le_refl _) (.cells #[.int .i64 z, .string s] 26)).alloc (by simp) (.cells #[.int .i64 0, .string ⟨#[]⟩] 26))
  have HS := AllLt.start w; go_enter Tryd.func20, Tryd.ntmps20
  go_wp2_with (first | (go_at_call 50; (with_reducible refine (l5Nodes_any z s i k _).mono ?_); rintro e w1 ⟨rfl, hb⟩; rw [HN.out]; have HB1 := hid (HB.out.trans (hb.mono HB.out.size)); have HK1 := hid (HK.out.below hb HK.out.lt); have HKs1 := hid (HKs.out.below hb HKs.out.lt); have s0 := HKs1.out.c0; have s1 := HKs1.out.c1; have r0 := HK1.out.c0; have r1 := HK1.out.c1; have rf0 := HK1.out.fr 0; have rf1 := HK1.out.fr 1; clear hb))
  refine bodyPost_ret (by simp [results, Tryd.results20, go_sem, *]; try rfl) rfl ?_
  exact ⟨rfl, (HB1.out.setCell (p := ⟨w.heap.size + 1, 0, none⟩) (by simp) _).setCell (p := ⟨w.heap.size + 1, 1, none⟩) (by simp) _⟩
set_option maxHeartbeats 1000000 in
theorem sPutRel_eq (z : Int) (s : ByteArray) (i k r : Int) (h : nodB z s i k = true) (hk : (i == k) = true) (w : World) :
    Calls Tryd.prog 20 #[.agg #[.int .i64 z, .string s], .int .i64 i, .int .i64 k, .int .i64 r] w fun e w' => e = .returned (.tuple #[.agg #[.int .i64 0, .string ⟨#[]⟩], .bool false]) ∧ Below w.heap.size w w' := by
  have HN := hid h
  clear h
  have HK := hid (show Nk ((w.alloc (.cells #[.int .i64 z, .string s] 26)).alloc (.cells #[.int .i64 0, .string ⟨#[]⟩] 26)) (w.heap.size + 1) 0 ⟨#[]⟩ by
    have h := Nk.made (w.alloc (.cells #[.int .i64 z, .string s] 26)) 0 ⟨#[]⟩
    rw [World.size_alloc] at h
    exact h)
  have HKs := hid (nk_alloc (Nk.made w z s) (.cells #[.int .i64 0, .string ⟨#[]⟩] 26))
  have HB := hid (((Below.refl w.heap.size w).alloc (Nat.le_refl _) (.cells #[.int .i64 z, .string s] 26)).alloc (by simp) (.cells #[.int .i64 0, .string ⟨#[]⟩] 26))
  have HS := AllLt.start w; go_enter Tryd.func20, Tryd.ntmps20
  go_wp2_with (first | (go_at_call 50; (with_reducible refine (l5Nodes_any z s i k _).mono ?_); rintro e w1 ⟨rfl, hb⟩; rw [HN.out]; have HB1 := hid (HB.out.trans (hb.mono HB.out.size)); have HK1 := hid (HK.out.below hb HK.out.lt); have HKs1 := hid (HKs.out.below hb HKs.out.lt); have s0 := HKs1.out.c0; have s1 := HKs1.out.c1; have r0 := HK1.out.c0; have r1 := HK1.out.c1; have rf0 := HK1.out.fr 0; have rf1 := HK1.out.fr 1; clear hb))
  refine bodyPost_ret (by simp [results, Tryd.results20, go_sem, *]; try rfl) rfl ?_
  exact ⟨rfl, (HB1.out.setCell (p := ⟨w.heap.size + 1, 0, none⟩) (by simp) _).setCell (p := ⟨w.heap.size + 1, 1, none⟩) (by simp) _⟩
set_option maxHeartbeats 1000000 in
theorem sPutRel_rel (z : Int) (s : ByteArray) (i k r : Int) (h : nodB z s i k = true) (hk : (i == k) = false) (hv : rv r = false) (w : World) :
    Calls Tryd.prog 20 #[.agg #[.int .i64 z, .string s], .int .i64 i, .int .i64 k, .int .i64 r] w fun e w' => e = .returned (.tuple #[.agg #[.int .i64 0, .string ⟨#[]⟩], .bool false]) ∧ Below w.heap.size w w' := by
  have HN := hid h
  have HV := hid hv
  clear hv
  clear h
  have HK := hid (show Nk ((w.alloc (.cells #[.int .i64 z, .string s] 26)).alloc (.cells #[.int .i64 0, .string ⟨#[]⟩] 26)) (w.heap.size + 1) 0 ⟨#[]⟩ by
    have h := Nk.made (w.alloc (.cells #[.int .i64 z, .string s] 26)) 0 ⟨#[]⟩
    rw [World.size_alloc] at h
    exact h)
  have HKs := hid (nk_alloc (Nk.made w z s) (.cells #[.int .i64 0, .string ⟨#[]⟩] 26))
  have HB := hid (((Below.refl w.heap.size w).alloc (Nat.le_refl _) (.cells #[.int .i64 z, .string s] 26)).alloc (by simp) (.cells #[.int .i64 0, .string ⟨#[]⟩] 26))
  have HS := AllLt.start w; go_enter Tryd.func20, Tryd.ntmps20
  go_wp2_with (first | (go_at_call 50; (with_reducible refine (l5Nodes_any z s i k _).mono ?_); rintro e w1 ⟨rfl, hb⟩; rw [HN.out]; have HB1 := hid (HB.out.trans (hb.mono HB.out.size)); have HK1 := hid (HK.out.below hb HK.out.lt); have HKs1 := hid (HKs.out.below hb HKs.out.lt); have s0 := HKs1.out.c0; have s1 := HKs1.out.c1; have r0 := HK1.out.c0; have r1 := HK1.out.c1; have rf0 := HK1.out.fr 0; have rf1 := HK1.out.fr 1; clear hb) | (go_at_call 46; (with_reducible refine (sRelValid_any _ _).mono ?_); rintro e w' ⟨rfl, rfl⟩; rw [HV.out]))
  refine bodyPost_ret (by simp [results, Tryd.results20, go_sem, *]; try rfl) rfl ?_
  exact ⟨rfl, (HB1.out.setCell (p := ⟨w.heap.size + 1, 0, none⟩) (by simp) _).setCell (p := ⟨w.heap.size + 1, 1, none⟩) (by simp) _⟩
set_option maxHeartbeats 2000000 in
theorem sPutRel_on (n : Nat) (R : Nat → Nat → Nat) (hR : OkR n R) (i k r : Nat) (hi : i < n) (hk : k < n) (hne : i ≠ k) (hr : r < 8192) (w : World) :
    Calls Tryd.prog 20 #[.agg #[.int .i64 n, .string (netS n R)], .int .i64 i, .int .i64 k, .int .i64 r] w fun e w' => e = .returned (.tuple #[.agg #[.int .i64 n, .string (netS n (putR R i k r))], .bool true]) ∧ Below w.heap.size w w' := by
  have HN := hid (show nodB n (netS n R) i k = true by simp [nodB, hasB_in hi, hasB_in hk, nv_net hR])
  have hik : ((i : Int) == (k : Int)) = false := by rw [beq_eq_false_iff_ne]; omega
  have HV := hid (rv_nat r hr)
  have HOP := hid (l5Open_any n hR.le R hR.lt)
  have h36 : n * n ≤ 36 := Nat.mul_le_mul hR.le hR.le
  have HLT := hid (updL_lt (j := k * n + i) (r := turN r) (updL_lt (L := fun x => R (x / n) (x % n)) (j := i * n + k) (r := r) (fun x => hR.lt _ _) hr) (turN_lt r))
  have HPT := hid (fun (b : Nat) (u : Value) (w : World) h => l5Put_any n hR.le (fun x => R (x / n) (x % n)) i k r hi hk hr b u w h)
  have HCT := hid (show catB (updL (updL (fun x => R (x / n) (x % n)) (i * n + k) r) (k * n + i) (turN r)) (n * n) = netS n (putR R i k r) by
    rw [← catB_net]
    unfold catB
    congr 2
    apply congrArg catD
    apply List.map_congr_left
    intro x hx
    exact put_row hi hk hne (List.mem_range.1 hx))
  have HLX := hid (show ∀ (v : Value) (w : World), Ts w w.heap.size v (n * n) (updL (updL (fun x => R (x / n) (x % n)) (i * n + k) r) (k * n + i) (turN r)) → Calls Tryd.prog 53 #[.agg #[.int .i64 n, v]] w fun e w' => e = .returned (.agg #[.int .i64 n, .string (netS n (putR R i k r))]) ∧ Below w.heap.size w w' from fun v w h => by
    have := l5Close_any n v (n * n) h36 _ (fun x _ => HLT.out x) w h
    rw [HCT.out] at this
    exact this)
  clear hR HLT HCT hne
  generalize netS n (putR R i k r) = t at *
  generalize netS n R = s at *
  have HK := hid (show Nk ((w.alloc (.cells #[.int .i64 (n : Int), .string s] 26)).alloc (.cells #[.int .i64 0, .string ⟨#[]⟩] 26)) (w.heap.size + 1) 0 ⟨#[]⟩ by
    have h := Nk.made (w.alloc (.cells #[.int .i64 (n : Int), .string s] 26)) 0 ⟨#[]⟩
    rw [World.size_alloc] at h
    exact h)
  have HKs := hid (nk_alloc (Nk.made w (n : Int) s) (.cells #[.int .i64 0, .string ⟨#[]⟩] 26))
  have HB := hid (((Below.refl w.heap.size w).alloc (Nat.le_refl _) (.cells #[.int .i64 (n : Int), .string s] 26)).alloc (by simp) (.cells #[.int .i64 0, .string ⟨#[]⟩] 26))
  have HS := AllLt.start w; go_enter Tryd.func20, Tryd.ntmps20
  go_wp2_with (first | (go_at_call 50; (with_reducible refine (l5Nodes_any (n : Int) s i k _).mono ?_); rintro e w1 ⟨rfl, hb⟩; rw [HN.out]; have HB1 := hid (HB.out.trans (hb.mono HB.out.size)); have HK1 := hid (HK.out.below hb HK.out.lt); have HKs1 := hid (HKs.out.below hb HKs.out.lt); have s0 := HKs1.out.c0; have s1 := HKs1.out.c1; have r0 := HK1.out.c0; have r1 := HK1.out.c1; have rf0 := HK1.out.fr 0; have rf1 := HK1.out.fr 1; clear hb) | (go_at_call 46; (with_reducible refine (sRelValid_any _ _).mono ?_); rintro e w' ⟨rfl, rfl⟩; rw [HV.out]))
  (with_reducible refine (HOP.out _).mono ?_)
  rintro e w2 ⟨⟨u, rfl, hown⟩, hb⟩
  have HB2 := hid (HB1.out.trans (hb.mono HB1.out.size))
  have HK2 := hid (HK1.out.below hb HK1.out.lt)
  clear hb s0 s1 r0 r1 rf0 rf1
  go_wp2_with fail
  (with_reducible refine (HPT.out _ u w2 hown).mono ?_)
  rintro e w3 ⟨⟨u', rfl, hown3⟩, hb⟩
  have HB3 := hid (HB2.out.trans (hb.mono HB2.out.size))
  have HK3 := hid (HK2.out.below hb HK2.out.lt)
  clear hb hown
  go_wp2_with fail
  (with_reducible refine (HLX.out u' w3 (Ts.of_own hown3)).mono ?_)
  rintro e w4 ⟨rfl, hb⟩
  have HB4 := hid (HB3.out.trans (hb.mono HB3.out.size))
  have HK4 := hid (HK3.out.below hb HK3.out.lt)
  have r0 := HK4.out.c0
  have r1 := HK4.out.c1
  have rf0 := HK4.out.fr 0
  have rf1 := HK4.out.fr 1
  clear hb hown3
  go_wp2_with fail
  refine bodyPost_ret (by simp [results, Tryd.results20, go_sem, *]; try rfl) rfl ?_
  exact ⟨rfl, (HB4.out.setCell (p := ⟨w.heap.size + 1, 0, none⟩) (by simp) _).setCell (p := ⟨w.heap.size + 1, 1, none⟩) (by simp) _⟩
set_option maxHeartbeats 1000000 in
theorem sLimitRel_nod (z : Int) (s : ByteArray) (i k r : Int) (h : nodB z s i k = false) (w : World) :
    Calls Tryd.prog 23 #[.agg #[.int .i64 z, .string s], .int .i64 i, .int .i64 k, .int .i64 r] w fun e w' => e = .returned (.tuple #[.agg #[.int .i64 0, .string ⟨#[]⟩], .bool false]) ∧ Below w.heap.size w w' := by
  have HN := hid h
  clear h
  have HK := hid (show Nk ((w.alloc (.cells #[.int .i64 z, .string s] 26)).alloc (.cells #[.int .i64 0, .string ⟨#[]⟩] 26)) (w.heap.size + 1) 0 ⟨#[]⟩ by
    have h := Nk.made (w.alloc (.cells #[.int .i64 z, .string s] 26)) 0 ⟨#[]⟩
    rw [World.size_alloc] at h
    exact h)
  have HKs := hid (nk_alloc (Nk.made w z s) (.cells #[.int .i64 0, .string ⟨#[]⟩] 26))
  have HB := hid (((Below.refl w.heap.size w).alloc (Nat.le_refl _) (.cells #[.int .i64 z, .string s] 26)).alloc (by simp) (.cells #[.int .i64 0, .string ⟨#[]⟩] 26))
  have HS := AllLt.start w; go_enter Tryd.func23, Tryd.ntmps23
  go_wp2_with (first | (go_at_call 50; (with_reducible refine (l5Nodes_any z s i k _).mono ?_); rintro e w1 ⟨rfl, hb⟩; rw [HN.out]; have HB1 := hid (HB.out.trans (hb.mono HB.out.size)); have HK1 := hid (HK.out.below hb HK.out.lt); have HKs1 := hid (HKs.out.below hb HKs.out.lt); have s0 := HKs1.out.c0; have s1 := HKs1.out.c1; have r0 := HK1.out.c0; have r1 := HK1.out.c1; have rf0 := HK1.out.fr 0; have rf1 := HK1.out.fr 1; clear hb))
  refine bodyPost_ret (by simp [results, Tryd.results23, go_sem, *]; try rfl) rfl ?_
  exact ⟨rfl, (HB1.out.setCell (p := ⟨w.heap.size + 1, 0, none⟩) (by simp) _).setCell (p := ⟨w.heap.size + 1, 1, none⟩) (by simp) _⟩
set_option maxHeartbeats 1000000 in
theorem sLimitRel_eq (z : Int) (s : ByteArray) (i k r : Int) (h : nodB z s i k = true) (hk : (i == k) = true) (w : World) :
    Calls Tryd.prog 23 #[.agg #[.int .i64 z, .string s], .int .i64 i, .int .i64 k, .int .i64 r] w fun e w' => e = .returned (.tuple #[.agg #[.int .i64 0, .string ⟨#[]⟩], .bool false]) ∧ Below w.heap.size w w' := by
  have HN := hid h
  clear h
  have HK := hid (show Nk ((w.alloc (.cells #[.int .i64 z, .string s] 26)).alloc (.cells #[.int .i64 0, .string ⟨#[]⟩] 26)) (w.heap.size + 1) 0 ⟨#[]⟩ by
    have h := Nk.made (w.alloc (.cells #[.int .i64 z, .string s] 26)) 0 ⟨#[]⟩
    rw [World.size_alloc] at h
    exact h)
  have HKs := hid (nk_alloc (Nk.made w z s) (.cells #[.int .i64 0, .string ⟨#[]⟩] 26))
  have HB := hid (((Below.refl w.heap.size w).alloc (Nat.le_refl _) (.cells #[.int .i64 z, .string s] 26)).alloc (by simp) (.cells #[.int .i64 0, .string ⟨#[]⟩] 26))
  have HS := AllLt.start w; go_enter Tryd.func23, Tryd.ntmps23
  go_wp2_with (first | (go_at_call 50; (with_reducible refine (l5Nodes_any z s i k _).mono ?_); rintro e w1 ⟨rfl, hb⟩; rw [HN.out]; have HB1 := hid (HB.out.trans (hb.mono HB.out.size)); have HK1 := hid (HK.out.below hb HK.out.lt); have HKs1 := hid (HKs.out.below hb HKs.out.lt); have s0 := HKs1.out.c0; have s1 := HKs1.out.c1; have r0 := HK1.out.c0; have r1 := HK1.out.c1; have rf0 := HK1.out.fr 0; have rf1 := HK1.out.fr 1; clear hb))
  refine bodyPost_ret (by simp [results, Tryd.results23, go_sem, *]; try rfl) rfl ?_
  exact ⟨rfl, (HB1.out.setCell (p := ⟨w.heap.size + 1, 0, none⟩) (by simp) _).setCell (p := ⟨w.heap.size + 1, 1, none⟩) (by simp) _⟩
set_option maxHeartbeats 1000000 in
theorem sLimitRel_rel (z : Int) (s : ByteArray) (i k r : Int) (h : nodB z s i k = true) (hk : (i == k) = false) (hv : rv r = false) (w : World) :
    Calls Tryd.prog 23 #[.agg #[.int .i64 z, .string s], .int .i64 i, .int .i64 k, .int .i64 r] w fun e w' => e = .returned (.tuple #[.agg #[.int .i64 0, .string ⟨#[]⟩], .bool false]) ∧ Below w.heap.size w w' := by
  have HN := hid h
  have HV := hid hv
  clear hv
  clear h
  have HK := hid (show Nk ((w.alloc (.cells #[.int .i64 z, .string s] 26)).alloc (.cells #[.int .i64 0, .string ⟨#[]⟩] 26)) (w.heap.size + 1) 0 ⟨#[]⟩ by
    have h := Nk.made (w.alloc (.cells #[.int .i64 z, .string s] 26)) 0 ⟨#[]⟩
    rw [World.size_alloc] at h
    exact h)
  have HKs := hid (nk_alloc (Nk.made w z s) (.cells #[.int .i64 0, .string ⟨#[]⟩] 26))
  have HB := hid (((Below.refl w.heap.size w).alloc (Nat.le_refl _) (.cells #[.int .i64 z, .string s] 26)).alloc (by simp) (.cells #[.int .i64 0, .string ⟨#[]⟩] 26))
  have HS := AllLt.start w; go_enter Tryd.func23, Tryd.ntmps23
  go_wp2_with (first | (go_at_call 50; (with_reducible refine (l5Nodes_any z s i k _).mono ?_); rintro e w1 ⟨rfl, hb⟩; rw [HN.out]; have HB1 := hid (HB.out.trans (hb.mono HB.out.size)); have HK1 := hid (HK.out.below hb HK.out.lt); have HKs1 := hid (HKs.out.below hb HKs.out.lt); have s0 := HKs1.out.c0; have s1 := HKs1.out.c1; have r0 := HK1.out.c0; have r1 := HK1.out.c1; have rf0 := HK1.out.fr 0; have rf1 := HK1.out.fr 1; clear hb) | (go_at_call 46; (with_reducible refine (sRelValid_any _ _).mono ?_); rintro e w' ⟨rfl, rfl⟩; rw [HV.out]))
  refine bodyPost_ret (by simp [results, Tryd.results23, go_sem, *]; try rfl) rfl ?_
  exact ⟨rfl, (HB1.out.setCell (p := ⟨w.heap.size + 1, 0, none⟩) (by simp) _).setCell (p := ⟨w.heap.size + 1, 1, none⟩) (by simp) _⟩
set_option maxHeartbeats 2000000 in
theorem sLimitRel_on (n : Nat) (R : Nat → Nat → Nat) (hR : OkR n R) (i k r : Nat) (hi : i < n) (hk : k < n) (hne : i ≠ k) (hr : r < 8192) (w : World) :
    Calls Tryd.prog 23 #[.agg #[.int .i64 n, .string (netS n R)], .int .i64 i, .int .i64 k, .int .i64 r] w fun e w' => e = .returned (.tuple #[.agg #[.int .i64 n, .string (netS n (putR R i k (r &&& R i k)))], .bool true]) ∧ Below w.heap.size w w' := by
  have HN := hid (show nodB n (netS n R) i k = true by simp [nodB, hasB_in hi, hasB_in hk, nv_net hR])
  have hik : ((i : Int) == (k : Int)) = false := by rw [beq_eq_false_iff_ne]; omega
  have HV := hid (rv_nat r hr)
  have hand := i64_and r (R i k) hr (hR.lt i k)
  have HRI := hid (rinI_in hR hi hk)
  have HPU := hid (sPutRel_on n R hR i k (r &&& R i k) hi hk hne (and_lt hr))
  clear hR hne
  generalize netS n (putR R i k (r &&& R i k)) = t at *
  generalize R i k = M at *
  generalize netS n R = s at *
  have HK := hid (show Nk ((w.alloc (.cells #[.int .i64 (n : Int), .string s] 26)).alloc (.cells #[.int .i64 0, .string ⟨#[]⟩] 26)) (w.heap.size + 1) 0 ⟨#[]⟩ by
    have h := Nk.made (w.alloc (.cells #[.int .i64 (n : Int), .string s] 26)) 0 ⟨#[]⟩
    rw [World.size_alloc] at h
    exact h)
  have HKs := hid (nk_alloc (Nk.made w (n : Int) s) (.cells #[.int .i64 0, .string ⟨#[]⟩] 26))
  have HB := hid (((Below.refl w.heap.size w).alloc (Nat.le_refl _) (.cells #[.int .i64 (n : Int), .string s] 26)).alloc (by simp) (.cells #[.int .i64 0, .string ⟨#[]⟩] 26))
  have HS := AllLt.start w; go_enter Tryd.func23, Tryd.ntmps23
  go_upto_region 3 with (first | (go_at_call 50; (with_reducible refine (l5Nodes_any (n : Int) s i k _).mono ?_); rintro e w1 ⟨rfl, hb⟩; rw [HN.out]; have HB1 := hid (HB.out.trans (hb.mono HB.out.size)); have HK1 := hid (HK.out.below hb HK.out.lt); have HKs1 := hid (HKs.out.below hb HKs.out.lt); have s0 := HKs1.out.c0; have s1 := HKs1.out.c1; have r0 := HK1.out.c0; have r1 := HK1.out.c1; have rf0 := HK1.out.fr 0; have rf1 := HK1.out.fr 1; clear hb) | (go_at_call 46; (with_reducible refine (sRelValid_any _ _).mono ?_); rintro e w' ⟨rfl, rfl⟩; rw [HV.out]))
  go_region_with (first | (go_at_call 18; (with_reducible refine (sRelIn_any (n : Int) s i k _).mono ?_); rintro e w4 ⟨rfl, hb⟩; rw [HRI.out]; have hb : Below w1.heap.size w1 w4 := (Below.refl w1.heap.size w1).drew.trans hb; have HB4 := hid (HB1.out.trans (hb.mono HB1.out.size)); have HK4 := hid (HK1.out.below hb HK1.out.lt); have HKs4 := hid (HKs1.out.below hb HKs1.out.lt); have s4 := HKs4.out.c0; have s5 := HKs4.out.c1; clear hb) | (go_at_call 20; (with_reducible refine (HPU.out _).mono ?_); rintro e w5 ⟨rfl, hb⟩; have HB5 := hid (HB4.out.trans (hb.mono HB4.out.size)); have HK5 := hid (HK4.out.below hb HK4.out.lt); have q0 := HK5.out.c0; have q1 := HK5.out.c1; have qf0 := HK5.out.fr 0; have qf1 := HK5.out.fr 1; clear hb) | fail)
  all_goals
    go_wp2_with fail
    refine bodyPost_ret (by simp [results, Tryd.results23, go_sem, *]; try rfl) rfl ?_
    exact ⟨rfl, (HB5.out.setCell (p := ⟨w.heap.size + 1, 0, none⟩) (by simp) _).setCell (p := ⟨w.heap.size + 1, 1, none⟩) (by simp) _⟩
set_option maxHeartbeats 1000000 in
theorem lawOff_PutRel (a00 : Int) (a01 : ByteArray) (a1 a2 a3 : Int) (w : World) (hs : a01.size ≤ 1048576) (hB : TB w)
    (hm : ∀ w : World, Calls Tryd.prog 20 #[.agg #[.int .i64 a00, .string a01], .int .i64 a1, .int .i64 a2, .int .i64 a3] w fun e w' => e = .returned (.tuple #[.agg #[.int .i64 0, .string ⟨#[]⟩], .bool false]) ∧ Below w.heap.size w w')
    (hi : ∀ w : World, TB w → Calls Tryd.prog 21 #[.agg #[.int .i64 a00, .string a01], .int .i64 a1, .int .i64 a2, .int .i64 a3] w fun e w' => e = .returned (.tuple #[.agg #[.int .i64 0, .string ⟨#[]⟩], .bool false]) ∧ Below w.heap.size w w') :
    Calls Tryd.prog 5 #[.agg #[.int .i64 a00, .string a01], .int .i64 a1, .int .i64 a2, .int .i64 a3] w fun e w' => e = .returned (.bool true) ∧ Below w.heap.size w w' := by
  have HT := hid hB
  have HM := hid hm
  have HI := hid hi
  have h0 : decide ((1048576 : Int) - (a01.size : Int) < 0) = false := by simp; omega
  have h1 : decide ((1048576 : Int) < (a01.size : Int)) = false := by simp; omega
  have HSZ := hid (szNet_on a00 a01 hs)
  clear hm hi hB hs
  have HS := AllLt.start w; have hn2 := lt2; have hn3 := lt3; have hn4 := lt4; go_enter Tryd.func5, Tryd.ntmps5
  go_wp2_with (first | (go_at_call 14; (with_reducible refine (HSZ.out _).mono ?_); rintro e w' ⟨rfl, hb⟩; obtain ⟨HB, hz0, hz, hc, hf⟩ := bst (w0 := w) (by go_grown) hb; clear hb; (try simp at hz); (first | ((refine HS.g5 (m := w'.heap.size) ?_ ?_); (focus omega); intro HS) | ((refine HS.g4 (m := w'.heap.size) ?_ ?_); (focus omega); intro HS) | ((refine HS.g3 (m := w'.heap.size) ?_ ?_); (focus omega); intro HS) | ((refine HS.g2 (m := w'.heap.size) ?_ ?_); (focus omega); intro HS) | ((refine HS.g1 (m := w'.heap.size) ?_ ?_); (focus omega); intro HS) | ((refine HS.g0 (m := w'.heap.size) ?_ ?_); (focus omega); intro HS)); have HU := HS; simp only [AllLt] at HU) | (go_at_call 16; (with_reducible refine (toNet_any _ _ _).mono ?_); rintro e w' ⟨rfl, hb⟩; obtain ⟨HB, hz0, hz, hc, hf⟩ := bst (w0 := w) (by go_grown) hb; clear hb; (try simp at hz); (first | ((refine HS.g5 (m := w'.heap.size) ?_ ?_); (focus omega); intro HS) | ((refine HS.g4 (m := w'.heap.size) ?_ ?_); (focus omega); intro HS) | ((refine HS.g3 (m := w'.heap.size) ?_ ?_); (focus omega); intro HS) | ((refine HS.g2 (m := w'.heap.size) ?_ ?_); (focus omega); intro HS) | ((refine HS.g1 (m := w'.heap.size) ?_ ?_); (focus omega); intro HS) | ((refine HS.g0 (m := w'.heap.size) ?_ ?_); (focus omega); intro HS)); have HU := HS; simp only [AllLt] at HU) | (go_at_call 20; (with_reducible refine (HM.out _).mono ?_); rintro e w' ⟨rfl, hb⟩; obtain ⟨HB, hz0, hz, hc, hf⟩ := bst (w0 := w) (by go_grown) hb; clear hb; (try simp at hz); (first | ((refine HS.g5 (m := w'.heap.size) ?_ ?_); (focus omega); intro HS) | ((refine HS.g4 (m := w'.heap.size) ?_ ?_); (focus omega); intro HS) | ((refine HS.g3 (m := w'.heap.size) ?_ ?_); (focus omega); intro HS) | ((refine HS.g2 (m := w'.heap.size) ?_ ?_); (focus omega); intro HS) | ((refine HS.g1 (m := w'.heap.size) ?_ ?_); (focus omega); intro HS) | ((refine HS.g0 (m := w'.heap.size) ?_ ?_); (focus omega); intro HS)); have HU := HS; simp only [AllLt] at HU) | (go_at_call 21; (with_reducible refine (HI.out _ (HT.out.below (by go_grown))).mono ?_); rintro e w' ⟨rfl, hb⟩; obtain ⟨HB, hz0, hz, hc, hf⟩ := bst (w0 := w) (by go_grown) hb; clear hb; (try simp at hz); (first | ((refine HS.g5 (m := w'.heap.size) ?_ ?_); (focus omega); intro HS) | ((refine HS.g4 (m := w'.heap.size) ?_ ?_); (focus omega); intro HS) | ((refine HS.g3 (m := w'.heap.size) ?_ ?_); (focus omega); intro HS) | ((refine HS.g2 (m := w'.heap.size) ?_ ?_); (focus omega); intro HS) | ((refine HS.g1 (m := w'.heap.size) ?_ ?_); (focus omega); intro HS) | ((refine HS.g0 (m := w'.heap.size) ?_ ?_); (focus omega); intro HS)); have HU := HS; simp only [AllLt] at HU) | (go_at_call 22; (with_reducible refine (eqNet_same _ _ _).mono ?_); rintro e w' ⟨rfl, hb⟩; obtain ⟨HB, hz0, hz, hc, hf⟩ := bst (w0 := w) (by go_grown) hb; clear hb; (try simp at hz); (first | ((refine HS.g5 (m := w'.heap.size) ?_ ?_); (focus omega); intro HS) | ((refine HS.g4 (m := w'.heap.size) ?_ ?_); (focus omega); intro HS) | ((refine HS.g3 (m := w'.heap.size) ?_ ?_); (focus omega); intro HS) | ((refine HS.g2 (m := w'.heap.size) ?_ ?_); (focus omega); intro HS) | ((refine HS.g1 (m := w'.heap.size) ?_ ?_); (focus omega); intro HS) | ((refine HS.g0 (m := w'.heap.size) ?_ ?_); (focus omega); intro HS)); have HU := HS; simp only [AllLt] at HU))
  go_ret
  exact ⟨rfl, by (repeat' (first | (with_reducible exact Below.refl _ _) | (with_reducible refine Below.setCell ?_ ?_ _) | (with_reducible refine below_drewN' ?_ _) | (with_reducible refine below_drew' ?_) | (with_reducible refine Below.alloc ?_ ?_ _) | (with_reducible assumption) | go_size))⟩
set_option maxHeartbeats 1000000 in
theorem lawOn_PutRel (n : Nat) (R : Nat → Nat → Nat) (hR : OkR n R) (i k r : Nat) (hi : i < n) (hk : k < n) (hne : i ≠ k) (hr : r < 8192) (w : World) (hs : (netS n R).size ≤ 1048576) (hB : TB w) :
    Calls Tryd.prog 5 #[.agg #[.int .i64 n, .string (netS n R)], .int .i64 i, .int .i64 k, .int .i64 r] w fun e w' => e = .returned (.bool true) ∧ Below w.heap.size w w' := by
  have HT := hid hB
  have HM := hid (sPutRel_on n R hR i k r hi hk hne hr)
  have HI := hid (iPutRel_on n R hR i k r hi hk hne hr)
  
  have h0 : decide ((1048576 : Int) - ((netS n R).size : Int) < 0) = false := by simp; omega
  have h1 : decide ((1048576 : Int) < ((netS n R).size : Int)) = false := by simp; omega
  have HSZ := hid (szNet_on n (netS n R) hs)
  clear hB hs hR
  generalize netS n (putR R i k r) = t at *
  generalize netS n R = s at *
  have HS := AllLt.start w; have hn2 := lt2; have hn3 := lt3; have hn4 := lt4; go_enter Tryd.func5, Tryd.ntmps5
  go_wp2_with (first | (go_at_call 14; (with_reducible refine (HSZ.out _).mono ?_); rintro e w' ⟨rfl, hb⟩; obtain ⟨HB, hz0, hz, hc, hf⟩ := bst (w0 := w) (by go_grown) hb; clear hb; (try simp at hz); (first | ((refine HS.g5 (m := w'.heap.size) ?_ ?_); (focus omega); intro HS) | ((refine HS.g4 (m := w'.heap.size) ?_ ?_); (focus omega); intro HS) | ((refine HS.g3 (m := w'.heap.size) ?_ ?_); (focus omega); intro HS) | ((refine HS.g2 (m := w'.heap.size) ?_ ?_); (focus omega); intro HS) | ((refine HS.g1 (m := w'.heap.size) ?_ ?_); (focus omega); intro HS) | ((refine HS.g0 (m := w'.heap.size) ?_ ?_); (focus omega); intro HS)); have HU := HS; simp only [AllLt] at HU) | (go_at_call 16; (with_reducible refine (toNet_any _ _ _).mono ?_); rintro e w' ⟨rfl, hb⟩; obtain ⟨HB, hz0, hz, hc, hf⟩ := bst (w0 := w) (by go_grown) hb; clear hb; (try simp at hz); (first | ((refine HS.g5 (m := w'.heap.size) ?_ ?_); (focus omega); intro HS) | ((refine HS.g4 (m := w'.heap.size) ?_ ?_); (focus omega); intro HS) | ((refine HS.g3 (m := w'.heap.size) ?_ ?_); (focus omega); intro HS) | ((refine HS.g2 (m := w'.heap.size) ?_ ?_); (focus omega); intro HS) | ((refine HS.g1 (m := w'.heap.size) ?_ ?_); (focus omega); intro HS) | ((refine HS.g0 (m := w'.heap.size) ?_ ?_); (focus omega); intro HS)); have HU := HS; simp only [AllLt] at HU) | (go_at_call 20; (with_reducible refine (HM.out _).mono ?_); rintro e w' ⟨rfl, hb⟩; obtain ⟨HB, hz0, hz, hc, hf⟩ := bst (w0 := w) (by go_grown) hb; clear hb; (try simp at hz); (first | ((refine HS.g5 (m := w'.heap.size) ?_ ?_); (focus omega); intro HS) | ((refine HS.g4 (m := w'.heap.size) ?_ ?_); (focus omega); intro HS) | ((refine HS.g3 (m := w'.heap.size) ?_ ?_); (focus omega); intro HS) | ((refine HS.g2 (m := w'.heap.size) ?_ ?_); (focus omega); intro HS) | ((refine HS.g1 (m := w'.heap.size) ?_ ?_); (focus omega); intro HS) | ((refine HS.g0 (m := w'.heap.size) ?_ ?_); (focus omega); intro HS)); have HU := HS; simp only [AllLt] at HU) | (go_at_call 21; (with_reducible refine (HI.out _ (HT.out.below (by go_grown))).mono ?_); rintro e w' ⟨rfl, hb⟩; obtain ⟨HB, hz0, hz, hc, hf⟩ := bst (w0 := w) (by go_grown) hb; clear hb; (try simp at hz); (first | ((refine HS.g5 (m := w'.heap.size) ?_ ?_); (focus omega); intro HS) | ((refine HS.g4 (m := w'.heap.size) ?_ ?_); (focus omega); intro HS) | ((refine HS.g3 (m := w'.heap.size) ?_ ?_); (focus omega); intro HS) | ((refine HS.g2 (m := w'.heap.size) ?_ ?_); (focus omega); intro HS) | ((refine HS.g1 (m := w'.heap.size) ?_ ?_); (focus omega); intro HS) | ((refine HS.g0 (m := w'.heap.size) ?_ ?_); (focus omega); intro HS)); have HU := HS; simp only [AllLt] at HU) | (go_at_call 22; (with_reducible refine (eqNet_same _ _ _).mono ?_); rintro e w' ⟨rfl, hb⟩; obtain ⟨HB, hz0, hz, hc, hf⟩ := bst (w0 := w) (by go_grown) hb; clear hb; (try simp at hz); (first | ((refine HS.g5 (m := w'.heap.size) ?_ ?_); (focus omega); intro HS) | ((refine HS.g4 (m := w'.heap.size) ?_ ?_); (focus omega); intro HS) | ((refine HS.g3 (m := w'.heap.size) ?_ ?_); (focus omega); intro HS) | ((refine HS.g2 (m := w'.heap.size) ?_ ?_); (focus omega); intro HS) | ((refine HS.g1 (m := w'.heap.size) ?_ ?_); (focus omega); intro HS) | ((refine HS.g0 (m := w'.heap.size) ?_ ?_); (focus omega); intro HS)); have HU := HS; simp only [AllLt] at HU))
  go_ret
  exact ⟨rfl, by (repeat' (first | (with_reducible exact Below.refl _ _) | (with_reducible refine Below.setCell ?_ ?_ _) | (with_reducible refine below_drewN' ?_ _) | (with_reducible refine below_drew' ?_) | (with_reducible refine Below.alloc ?_ ?_ _) | (with_reducible assumption) | go_size))⟩
set_option maxHeartbeats 1000000 in
theorem walk_FnExactPutRel (a00 : Int) (a01 : ByteArray) (a1 a2 a3 : Int) (w : World) (w00 : (Lit.int .i64 a00).wf = true) (w01 : a01.size ≤ maxLen) (w1 : (Lit.int .i64 a1).wf = true) (w2 : (Lit.int .i64 a2).wf = true) (w3 : (Lit.int .i64 a3).wf = true) (hB : TB w) :
    Calls Tryd.prog 5 #[.agg #[.int .i64 a00, .string a01], .int .i64 a1, .int .i64 a2, .int .i64 a3] w fun e w' => e = .returned (.bool true) ∧ Below w.heap.size w w' := by
  clear w00 w1 w2 w3
  by_cases hs : a01.size ≤ 1048576
  · rcases nv_cases a00 a01 with h | ⟨n, R, hR, rfl, rfl⟩
    · exact lawOff_PutRel a00 a01 a1 a2 a3 w hs hB (sPutRel_nod a00 a01 a1 a2 a3 (by simp [nodB, h])) (iPutRel_off a00 a01 a1 a2 a3 (netWith_no a00 a01 h a1 a2 a3))
    · rcases hasB_cases n a1 with h1 | ⟨i, hi, rfl⟩
      · exact lawOff_PutRel n (netS n R) a1 a2 a3 w hs hB (sPutRel_nod n (netS n R) a1 a2 a3 (by simp [nodB, h1])) (iPutRel_off n (netS n R) a1 a2 a3 (netWith_dif n R hR a1 a2 a3 (by simp [difB, h1])))
      · rcases hasB_cases n a2 with h2 | ⟨k, hk, rfl⟩
        · exact lawOff_PutRel n (netS n R) i a2 a3 w hs hB (sPutRel_nod n (netS n R) i a2 a3 (by simp [nodB, h2])) (iPutRel_off n (netS n R) i a2 a3 (netWith_dif n R hR i a2 a3 (by simp [difB, h2])))
        · have hnod : nodB n (netS n R) i k = true := by simp [nodB, hasB_in hi, hasB_in hk, nv_net hR]
          by_cases e : i = k
          · exact lawOff_PutRel n (netS n R) i k a3 w hs hB (sPutRel_eq n (netS n R) i k a3 hnod (by rw [e]; simp)) (iPutRel_off n (netS n R) i k a3 (netWith_dif n R hR i k a3 (by simp [difB, e])))
          · have hik : ((i : Int) == (k : Int)) = false := by rw [beq_eq_false_iff_ne]; omega
            have hki : ((k : Int) == (i : Int)) = false := by rw [beq_eq_false_iff_ne]; omega
            have hd : difB n i k = true := by simp only [difB, hasB_in hi, hasB_in hk, hki]; rfl
            cases hv : rv a3
            · exact lawOff_PutRel n (netS n R) i k a3 w hs hB (sPutRel_rel n (netS n R) i k a3 hnod hik hv) (iPutRel_off n (netS n R) i k a3 (netWith_rel n R hR i k a3 hd hv))
            · have hr := (rv_iff a3).1 hv
              obtain ⟨r, rfl⟩ : ∃ r : Nat, a3 = r := ⟨a3.toNat, by omega⟩
              exact lawOn_PutRel n R hR i k r hi hk e (by omega) w hs hB
  · have HT := hid hB
    clear hB
    have HS := AllLt.start w; have hn2 := lt2; have hn3 := lt3; have hn4 := lt4; go_enter Tryd.func5, Tryd.ntmps5
    go_wp2_with (first | (go_at_call 14; (with_reducible refine (szNet_off a00 a01 hs w01 _).mono ?_); rintro e w' ⟨rfl, hb⟩; obtain ⟨HB, hz0, hz, hc, hf⟩ := bst (w0 := w) (by go_grown) hb; clear hb; (try simp at hz); (first | ((refine HS.g5 (m := w'.heap.size) ?_ ?_); (focus omega); intro HS) | ((refine HS.g4 (m := w'.heap.size) ?_ ?_); (focus omega); intro HS) | ((refine HS.g3 (m := w'.heap.size) ?_ ?_); (focus omega); intro HS) | ((refine HS.g2 (m := w'.heap.size) ?_ ?_); (focus omega); intro HS) | ((refine HS.g1 (m := w'.heap.size) ?_ ?_); (focus omega); intro HS) | ((refine HS.g0 (m := w'.heap.size) ?_ ?_); (focus omega); intro HS)); have HU := HS; simp only [AllLt] at HU))
    go_ret
    exact ⟨rfl, by (repeat' (first | (with_reducible exact Below.refl _ _) | (with_reducible refine Below.setCell ?_ ?_ _) | (with_reducible refine below_drewN' ?_ _) | (with_reducible refine below_drew' ?_) | (with_reducible refine Below.alloc ?_ ?_ _) | (with_reducible assumption) | go_size))⟩
set_option maxHeartbeats 1000000 in
theorem lawOff_LimitRel (a00 : Int) (a01 : ByteArray) (a1 a2 a3 : Int) (w : World) (hs : a01.size ≤ 1048576) (hB : TB w)
    (hm : ∀ w : World, Calls Tryd.prog 23 #[.agg #[.int .i64 a00, .string a01], .int .i64 a1, .int .i64 a2, .int .i64 a3] w fun e w' => e = .returned (.tuple #[.agg #[.int .i64 0, .string ⟨#[]⟩], .bool false]) ∧ Below w.heap.size w w')
    (hi : ∀ w : World, TB w → Calls Tryd.prog 24 #[.agg #[.int .i64 a00, .string a01], .int .i64 a1, .int .i64 a2, .int .i64 a3] w fun e w' => e = .returned (.tuple #[.agg #[.int .i64 0, .string ⟨#[]⟩], .bool false]) ∧ Below w.heap.size w w') :
    Calls Tryd.prog 6 #[.agg #[.int .i64 a00, .string a01], .int .i64 a1, .int .i64 a2, .int .i64 a3] w fun e w' => e = .returned (.bool true) ∧ Below w.heap.size w w' := by
  have HT := hid hB
  have HM := hid hm
  have HI := hid hi
  have h0 : decide ((1048576 : Int) - (a01.size : Int) < 0) = false := by simp; omega
  have h1 : decide ((1048576 : Int) < (a01.size : Int)) = false := by simp; omega
  have HSZ := hid (szNet_on a00 a01 hs)
  clear hm hi hB hs
  have HS := AllLt.start w; have hn2 := lt2; have hn3 := lt3; have hn4 := lt4; go_enter Tryd.func6, Tryd.ntmps6
  go_wp2_with (first | (go_at_call 14; (with_reducible refine (HSZ.out _).mono ?_); rintro e w' ⟨rfl, hb⟩; obtain ⟨HB, hz0, hz, hc, hf⟩ := bst (w0 := w) (by go_grown) hb; clear hb; (try simp at hz); (first | ((refine HS.g5 (m := w'.heap.size) ?_ ?_); (focus omega); intro HS) | ((refine HS.g4 (m := w'.heap.size) ?_ ?_); (focus omega); intro HS) | ((refine HS.g3 (m := w'.heap.size) ?_ ?_); (focus omega); intro HS) | ((refine HS.g2 (m := w'.heap.size) ?_ ?_); (focus omega); intro HS) | ((refine HS.g1 (m := w'.heap.size) ?_ ?_); (focus omega); intro HS) | ((refine HS.g0 (m := w'.heap.size) ?_ ?_); (focus omega); intro HS)); have HU := HS; simp only [AllLt] at HU) | (go_at_call 16; (with_reducible refine (toNet_any _ _ _).mono ?_); rintro e w' ⟨rfl, hb⟩; obtain ⟨HB, hz0, hz, hc, hf⟩ := bst (w0 := w) (by go_grown) hb; clear hb; (try simp at hz); (first | ((refine HS.g5 (m := w'.heap.size) ?_ ?_); (focus omega); intro HS) | ((refine HS.g4 (m := w'.heap.size) ?_ ?_); (focus omega); intro HS) | ((refine HS.g3 (m := w'.heap.size) ?_ ?_); (focus omega); intro HS) | ((refine HS.g2 (m := w'.heap.size) ?_ ?_); (focus omega); intro HS) | ((refine HS.g1 (m := w'.heap.size) ?_ ?_); (focus omega); intro HS) | ((refine HS.g0 (m := w'.heap.size) ?_ ?_); (focus omega); intro HS)); have HU := HS; simp only [AllLt] at HU) | (go_at_call 23; (with_reducible refine (HM.out _).mono ?_); rintro e w' ⟨rfl, hb⟩; obtain ⟨HB, hz0, hz, hc, hf⟩ := bst (w0 := w) (by go_grown) hb; clear hb; (try simp at hz); (first | ((refine HS.g5 (m := w'.heap.size) ?_ ?_); (focus omega); intro HS) | ((refine HS.g4 (m := w'.heap.size) ?_ ?_); (focus omega); intro HS) | ((refine HS.g3 (m := w'.heap.size) ?_ ?_); (focus omega); intro HS) | ((refine HS.g2 (m := w'.heap.size) ?_ ?_); (focus omega); intro HS) | ((refine HS.g1 (m := w'.heap.size) ?_ ?_); (focus omega); intro HS) | ((refine HS.g0 (m := w'.heap.size) ?_ ?_); (focus omega); intro HS)); have HU := HS; simp only [AllLt] at HU) | (go_at_call 24; (with_reducible refine (HI.out _ (HT.out.below (by go_grown))).mono ?_); rintro e w' ⟨rfl, hb⟩; obtain ⟨HB, hz0, hz, hc, hf⟩ := bst (w0 := w) (by go_grown) hb; clear hb; (try simp at hz); (first | ((refine HS.g5 (m := w'.heap.size) ?_ ?_); (focus omega); intro HS) | ((refine HS.g4 (m := w'.heap.size) ?_ ?_); (focus omega); intro HS) | ((refine HS.g3 (m := w'.heap.size) ?_ ?_); (focus omega); intro HS) | ((refine HS.g2 (m := w'.heap.size) ?_ ?_); (focus omega); intro HS) | ((refine HS.g1 (m := w'.heap.size) ?_ ?_); (focus omega); intro HS) | ((refine HS.g0 (m := w'.heap.size) ?_ ?_); (focus omega); intro HS)); have HU := HS; simp only [AllLt] at HU) | (go_at_call 22; (with_reducible refine (eqNet_same _ _ _).mono ?_); rintro e w' ⟨rfl, hb⟩; obtain ⟨HB, hz0, hz, hc, hf⟩ := bst (w0 := w) (by go_grown) hb; clear hb; (try simp at hz); (first | ((refine HS.g5 (m := w'.heap.size) ?_ ?_); (focus omega); intro HS) | ((refine HS.g4 (m := w'.heap.size) ?_ ?_); (focus omega); intro HS) | ((refine HS.g3 (m := w'.heap.size) ?_ ?_); (focus omega); intro HS) | ((refine HS.g2 (m := w'.heap.size) ?_ ?_); (focus omega); intro HS) | ((refine HS.g1 (m := w'.heap.size) ?_ ?_); (focus omega); intro HS) | ((refine HS.g0 (m := w'.heap.size) ?_ ?_); (focus omega); intro HS)); have HU := HS; simp only [AllLt] at HU))
  go_ret
  exact ⟨rfl, by (repeat' (first | (with_reducible exact Below.refl _ _) | (with_reducible refine Below.setCell ?_ ?_ _) | (with_reducible refine below_drewN' ?_ _) | (with_reducible refine below_drew' ?_) | (with_reducible refine Below.alloc ?_ ?_ _) | (with_reducible assumption) | go_size))⟩
set_option maxHeartbeats 1000000 in
theorem lawOn_LimitRel (n : Nat) (R : Nat → Nat → Nat) (hR : OkR n R) (i k r : Nat) (hi : i < n) (hk : k < n) (hne : i ≠ k) (hr : r < 8192) (w : World) (hs : (netS n R).size ≤ 1048576) (hB : TB w) :
    Calls Tryd.prog 6 #[.agg #[.int .i64 n, .string (netS n R)], .int .i64 i, .int .i64 k, .int .i64 r] w fun e w' => e = .returned (.bool true) ∧ Below w.heap.size w w' := by
  have HT := hid hB
  have HM := hid (sLimitRel_on n R hR i k r hi hk hne hr)
  have HI := hid (iLimitRel_on n R hR i k r hi hk hne hr)
  rw [Nat.and_comm r] at HM
  have h0 : decide ((1048576 : Int) - ((netS n R).size : Int) < 0) = false := by simp; omega
  have h1 : decide ((1048576 : Int) < ((netS n R).size : Int)) = false := by simp; omega
  have HSZ := hid (szNet_on n (netS n R) hs)
  clear hB hs hR
  generalize netS n (putR R i k (R i k &&& r)) = t at *
  generalize netS n R = s at *
  have HS := AllLt.start w; have hn2 := lt2; have hn3 := lt3; have hn4 := lt4; go_enter Tryd.func6, Tryd.ntmps6
  go_wp2_with (first | (go_at_call 14; (with_reducible refine (HSZ.out _).mono ?_); rintro e w' ⟨rfl, hb⟩; obtain ⟨HB, hz0, hz, hc, hf⟩ := bst (w0 := w) (by go_grown) hb; clear hb; (try simp at hz); (first | ((refine HS.g5 (m := w'.heap.size) ?_ ?_); (focus omega); intro HS) | ((refine HS.g4 (m := w'.heap.size) ?_ ?_); (focus omega); intro HS) | ((refine HS.g3 (m := w'.heap.size) ?_ ?_); (focus omega); intro HS) | ((refine HS.g2 (m := w'.heap.size) ?_ ?_); (focus omega); intro HS) | ((refine HS.g1 (m := w'.heap.size) ?_ ?_); (focus omega); intro HS) | ((refine HS.g0 (m := w'.heap.size) ?_ ?_); (focus omega); intro HS)); have HU := HS; simp only [AllLt] at HU) | (go_at_call 16; (with_reducible refine (toNet_any _ _ _).mono ?_); rintro e w' ⟨rfl, hb⟩; obtain ⟨HB, hz0, hz, hc, hf⟩ := bst (w0 := w) (by go_grown) hb; clear hb; (try simp at hz); (first | ((refine HS.g5 (m := w'.heap.size) ?_ ?_); (focus omega); intro HS) | ((refine HS.g4 (m := w'.heap.size) ?_ ?_); (focus omega); intro HS) | ((refine HS.g3 (m := w'.heap.size) ?_ ?_); (focus omega); intro HS) | ((refine HS.g2 (m := w'.heap.size) ?_ ?_); (focus omega); intro HS) | ((refine HS.g1 (m := w'.heap.size) ?_ ?_); (focus omega); intro HS) | ((refine HS.g0 (m := w'.heap.size) ?_ ?_); (focus omega); intro HS)); have HU := HS; simp only [AllLt] at HU) | (go_at_call 23; (with_reducible refine (HM.out _).mono ?_); rintro e w' ⟨rfl, hb⟩; obtain ⟨HB, hz0, hz, hc, hf⟩ := bst (w0 := w) (by go_grown) hb; clear hb; (try simp at hz); (first | ((refine HS.g5 (m := w'.heap.size) ?_ ?_); (focus omega); intro HS) | ((refine HS.g4 (m := w'.heap.size) ?_ ?_); (focus omega); intro HS) | ((refine HS.g3 (m := w'.heap.size) ?_ ?_); (focus omega); intro HS) | ((refine HS.g2 (m := w'.heap.size) ?_ ?_); (focus omega); intro HS) | ((refine HS.g1 (m := w'.heap.size) ?_ ?_); (focus omega); intro HS) | ((refine HS.g0 (m := w'.heap.size) ?_ ?_); (focus omega); intro HS)); have HU := HS; simp only [AllLt] at HU) | (go_at_call 24; (with_reducible refine (HI.out _ (HT.out.below (by go_grown))).mono ?_); rintro e w' ⟨rfl, hb⟩; obtain ⟨HB, hz0, hz, hc, hf⟩ := bst (w0 := w) (by go_grown) hb; clear hb; (try simp at hz); (first | ((refine HS.g5 (m := w'.heap.size) ?_ ?_); (focus omega); intro HS) | ((refine HS.g4 (m := w'.heap.size) ?_ ?_); (focus omega); intro HS) | ((refine HS.g3 (m := w'.heap.size) ?_ ?_); (focus omega); intro HS) | ((refine HS.g2 (m := w'.heap.size) ?_ ?_); (focus omega); intro HS) | ((refine HS.g1 (m := w'.heap.size) ?_ ?_); (focus omega); intro HS) | ((refine HS.g0 (m := w'.heap.size) ?_ ?_); (focus omega); intro HS)); have HU := HS; simp only [AllLt] at HU) | (go_at_call 22; (with_reducible refine (eqNet_same _ _ _).mono ?_); rintro e w' ⟨rfl, hb⟩; obtain ⟨HB, hz0, hz, hc, hf⟩ := bst (w0 := w) (by go_grown) hb; clear hb; (try simp at hz); (first | ((refine HS.g5 (m := w'.heap.size) ?_ ?_); (focus omega); intro HS) | ((refine HS.g4 (m := w'.heap.size) ?_ ?_); (focus omega); intro HS) | ((refine HS.g3 (m := w'.heap.size) ?_ ?_); (focus omega); intro HS) | ((refine HS.g2 (m := w'.heap.size) ?_ ?_); (focus omega); intro HS) | ((refine HS.g1 (m := w'.heap.size) ?_ ?_); (focus omega); intro HS) | ((refine HS.g0 (m := w'.heap.size) ?_ ?_); (focus omega); intro HS)); have HU := HS; simp only [AllLt] at HU))
  go_ret
  exact ⟨rfl, by (repeat' (first | (with_reducible exact Below.refl _ _) | (with_reducible refine Below.setCell ?_ ?_ _) | (with_reducible refine below_drewN' ?_ _) | (with_reducible refine below_drew' ?_) | (with_reducible refine Below.alloc ?_ ?_ _) | (with_reducible assumption) | go_size))⟩
set_option maxHeartbeats 1000000 in
theorem walk_FnExactLimitRel (a00 : Int) (a01 : ByteArray) (a1 a2 a3 : Int) (w : World) (w00 : (Lit.int .i64 a00).wf = true) (w01 : a01.size ≤ maxLen) (w1 : (Lit.int .i64 a1).wf = true) (w2 : (Lit.int .i64 a2).wf = true) (w3 : (Lit.int .i64 a3).wf = true) (hB : TB w) :
    Calls Tryd.prog 6 #[.agg #[.int .i64 a00, .string a01], .int .i64 a1, .int .i64 a2, .int .i64 a3] w fun e w' => e = .returned (.bool true) ∧ Below w.heap.size w w' := by
  clear w00 w1 w2 w3
  by_cases hs : a01.size ≤ 1048576
  · rcases nv_cases a00 a01 with h | ⟨n, R, hR, rfl, rfl⟩
    · exact lawOff_LimitRel a00 a01 a1 a2 a3 w hs hB (sLimitRel_nod a00 a01 a1 a2 a3 (by simp [nodB, h])) (iLimitRel_off a00 a01 a1 a2 a3 (netWith_no a00 a01 h a1 a2 a3))
    · rcases hasB_cases n a1 with h1 | ⟨i, hi, rfl⟩
      · exact lawOff_LimitRel n (netS n R) a1 a2 a3 w hs hB (sLimitRel_nod n (netS n R) a1 a2 a3 (by simp [nodB, h1])) (iLimitRel_off n (netS n R) a1 a2 a3 (netWith_dif n R hR a1 a2 a3 (by simp [difB, h1])))
      · rcases hasB_cases n a2 with h2 | ⟨k, hk, rfl⟩
        · exact lawOff_LimitRel n (netS n R) i a2 a3 w hs hB (sLimitRel_nod n (netS n R) i a2 a3 (by simp [nodB, h2])) (iLimitRel_off n (netS n R) i a2 a3 (netWith_dif n R hR i a2 a3 (by simp [difB, h2])))
        · have hnod : nodB n (netS n R) i k = true := by simp [nodB, hasB_in hi, hasB_in hk, nv_net hR]
          by_cases e : i = k
          · exact lawOff_LimitRel n (netS n R) i k a3 w hs hB (sLimitRel_eq n (netS n R) i k a3 hnod (by rw [e]; simp)) (iLimitRel_off n (netS n R) i k a3 (netWith_dif n R hR i k a3 (by simp [difB, e])))
          · have hik : ((i : Int) == (k : Int)) = false := by rw [beq_eq_false_iff_ne]; omega
            have hki : ((k : Int) == (i : Int)) = false := by rw [beq_eq_false_iff_ne]; omega
            have hd : difB n i k = true := by simp only [difB, hasB_in hi, hasB_in hk, hki]; rfl
            cases hv : rv a3
            · exact lawOff_LimitRel n (netS n R) i k a3 w hs hB (sLimitRel_rel n (netS n R) i k a3 hnod hik hv) (iLimitRel_off n (netS n R) i k a3 (netWith_rel n R hR i k a3 hd hv))
            · have hr := (rv_iff a3).1 hv
              obtain ⟨r, rfl⟩ : ∃ r : Nat, a3 = r := ⟨a3.toNat, by omega⟩
              exact lawOn_LimitRel n R hR i k r hi hk e (by omega) w hs hB
  · have HT := hid hB
    clear hB
    have HS := AllLt.start w; have hn2 := lt2; have hn3 := lt3; have hn4 := lt4; go_enter Tryd.func6, Tryd.ntmps6
    go_wp2_with (first | (go_at_call 14; (with_reducible refine (szNet_off a00 a01 hs w01 _).mono ?_); rintro e w' ⟨rfl, hb⟩; obtain ⟨HB, hz0, hz, hc, hf⟩ := bst (w0 := w) (by go_grown) hb; clear hb; (try simp at hz); (first | ((refine HS.g5 (m := w'.heap.size) ?_ ?_); (focus omega); intro HS) | ((refine HS.g4 (m := w'.heap.size) ?_ ?_); (focus omega); intro HS) | ((refine HS.g3 (m := w'.heap.size) ?_ ?_); (focus omega); intro HS) | ((refine HS.g2 (m := w'.heap.size) ?_ ?_); (focus omega); intro HS) | ((refine HS.g1 (m := w'.heap.size) ?_ ?_); (focus omega); intro HS) | ((refine HS.g0 (m := w'.heap.size) ?_ ?_); (focus omega); intro HS)); have HU := HS; simp only [AllLt] at HU))
    go_ret
    exact ⟨rfl, by (repeat' (first | (with_reducible exact Below.refl _ _) | (with_reducible refine Below.setCell ?_ ?_ _) | (with_reducible refine below_drewN' ?_ _) | (with_reducible refine below_drew' ?_) | (with_reducible refine Below.alloc ?_ ?_ _) | (with_reducible assumption) | go_size))⟩
end Go.Proofs.YtdamnhigdaklcaaDoor.C
