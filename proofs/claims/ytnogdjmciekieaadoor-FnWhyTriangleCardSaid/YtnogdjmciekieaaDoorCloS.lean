/- The model: what a third node leaves, TriangleRel, WhyTriangle. -/
import Derived.Test.YtnogdjmciekieaaDoorCloM
import Derived.Test.YtnogdjmciekieaaDoorNetC
import Derived.Test.YtnogdjmciekieaaDoorNetO
namespace Go.Proofs.YtnogdjmciekieaaDoor.C
open Go.RowKit
set_option linter.unusedVariables false
set_option linter.unusedSimpArgs false
def fl (n : Nat) (R : Nat → Nat → Nat) : Nat → Nat := fun x => R (x / n) (x % n)
theorem fl_at (n : Nat) (R : Nat → Nat → Nat) {i k : Nat} (hk : k < n) : fl n R (i * n + k) = R i k := by
  unfold fl; rw [(at_div hk).1, (at_div hk).2]
theorem ts_fl {w : World} {n b : Nat} {R : Nat → Nat → Nat} {u : Value} (h : w.ownsRow b 3 1 u (n * n) (rowL (fun x => R (x / n) (x % n)) (n * n))) : Ts w w.heap.size u (n * n) (fl n R) := Ts.of_own h
/-- A call that draws nothing, in a second region of one walk. -/
theorem calm_behind {P : Program} {f : FuncId} {args : Array Value} {w : World} {a n : Nat} {v : Value} (h : ∀ W : World, W = w.drewN (a + n) → Calls P f args W fun e w' => e = .returned v ∧ W = w') :
    Calls P f args (w.drewN (a + n)) fun e w'' => e = .returned v ∧ ∃ m, w'' = w.drewN (a + m) :=
  (h _ rfl).mono fun _ _ ⟨he, hm⟩ => ⟨he, n, hm.symm⟩
set_option maxHeartbeats 4000000 in
set_option maxRecDepth 100000 in
theorem l6Tri_any (o n : Nat) (h6 : n ≤ 6) (R : Nat → Nat → Nat) (hR : ∀ i k, R i k < 8192) (i k b : Nat) (hi : i < n) (hk : k < n) (hb : b < n) (u : Value) (w : World) (hC : TC w o) (ho : o < w.heap.size) (hT : Ts w w.heap.size u (n * n) (fl n R)) :
    Calls Tryd.prog 55 #[.slice (some ⟨o, 0, none⟩) 169 169, .agg #[.int .i64 n, u], .int .i64 i, .int .i64 k, .int .i64 b] w fun e w' => e = .returned (.int .i64 ((triN R i k b : Nat) : Int)) ∧ Below w.heap.size w w' := by
  obtain ⟨a, cap, rfl, hE⟩ := hT
  have l1 := at_lt hi hk
  have l2 := at_lt hi hb
  have l3 := at_lt hb hk
  obtain ⟨g, rfl, hg, c1⟩ := hE _ l1
  obtain ⟨g', e, _, c2⟩ := hE _ l2
  cases e
  obtain ⟨g', e, _, c3⟩ := hE _ l3
  cases e
  rw [fl_at n R hk] at c1 c3
  rw [fl_at n R hb] at c2
  have h36 : n * n ≤ 36 := Nat.mul_le_mul h6 h6
  have HB := hid ((Below.refl w.heap.size w).alloc (Nat.le_refl _) (.cells #[.int .i64 (n : Int), .slice (some ⟨g, 0, none⟩) (n * n) cap] 51))
  have HC := hid (show TC (w.alloc (.cells #[.int .i64 (n : Int), .slice (some ⟨g, 0, none⟩) (n * n) cap] 51)) o from fun x hx => (HB.out.cell (p := ⟨o, x, none⟩) ho).trans (hC x hx))
  have HTk := Tk.made w n (.slice (some ⟨g, 0, none⟩) (n * n) cap)
  have t0 := HTk.c0
  have t1 := HTk.c1
  have d1 := (HB.out.cell (p := ⟨g, i * n + k, none⟩) hg).trans c1
  have d2 := (HB.out.cell (p := ⟨g, i * n + b, none⟩) hg).trans c2
  have d3 := (HB.out.cell (p := ⟨g, b * n + k, none⟩) hg).trans c3
  have HV := hid (i64_and (R i k) (cmN (R i b) (R b k)) (hR i k) (cmN_lt _ _))
  have H1 := hid (hR i b)
  have H2 := hid (hR b k)
  clear hE c1 c2 c3 HTk hC ho hR
  obtain ⟨x, hx⟩ : ∃ x : Nat, x = i * n := ⟨_, rfl⟩
  obtain ⟨y, hy⟩ : ∃ y : Nat, y = b * n := ⟨_, rfl⟩
  have hmx : (i : Int) * (n : Int) = (x : Int) := by rw [hx]; push_cast; rfl
  have hmy : (b : Int) * (n : Int) = (y : Int) := by rw [hy]; push_cast; rfl
  rw [← hx] at l1 l2 d1 d2
  rw [← hy] at l3 d3
  clear hx hy
  generalize n * n = nn at *
  have x1 : IntKind.i64.wrap (x : Int) = (x : Int) := IntWalk.i64_in _ (by omega)
  have y1 : IntKind.i64.wrap (y : Int) = (y : Int) := IntWalk.i64_in _ (by omega)
  have x2 : IntKind.i64.wrap ((x : Int) + (k : Int)) = (x : Int) + (k : Int) := IntWalk.i64_in _ (by omega)
  have x3 : IntKind.i64.wrap ((x : Int) + (b : Int)) = (x : Int) + (b : Int) := IntWalk.i64_in _ (by omega)
  have y2 : IntKind.i64.wrap ((y : Int) + (k : Int)) = (y : Int) + (k : Int) := IntWalk.i64_in _ (by omega)
  have p1 : (0 : Int) ≤ (x : Int) + (k : Int) := by omega
  have p2 : (0 : Int) ≤ (x : Int) + (b : Int) := by omega
  have p3 : (0 : Int) ≤ (y : Int) + (k : Int) := by omega
  have q1 : (x : Int) + (k : Int) < (nn : Int) := by omega
  have q2 : (x : Int) + (b : Int) < (nn : Int) := by omega
  have q3 : (y : Int) + (k : Int) < (nn : Int) := by omega
  have z1 : ((x : Int) + (k : Int)).toNat = x + k := by omega
  have z2 : ((x : Int) + (b : Int)).toNat = x + b := by omega
  have z3 : ((y : Int) + (k : Int)).toNat = y + k := by omega
  have HS := AllLt.start w; go_enter Tryd.func55, Tryd.ntmps55
  go_upto_region 1 with fail
  generalize w.alloc (.cells #[.int .i64 (n : Int), .slice (some ⟨g, 0, none⟩) nn cap] 51) = w2 at *
  go_quiet (fail)
  go_upto_region 2 with fail
  have HCF := hid (show ∀ (m : Nat) (W : World), W = w2.drewN m → Calls Tryd.prog 85 #[.slice (some ⟨o, 0, none⟩) 169 169, .int .i64 ((R i b : Nat) : Int), .int .i64 ((R b k : Nat) : Int)] W fun e w' => e = .returned (.int .i64 ((cmN (R i b) (R b k) : Nat) : Int)) ∧ W = w' from fun m W e => l3Compose_any o (R i b) (R b k) H1.out H2.out W (by rw [e]; exact HC.out))
  go_quiet (first | (go_at_call 85; exact calm_behind (HCF.out _)))
  go_wp2
  go_ret
  exact ⟨ret_int HV.out, (by first | exact below_drewN' (below_drewN' HB.out _) _ | exact below_drewN' HB.out _)⟩
set_option maxHeartbeats 4000000 in
set_option maxRecDepth 100000 in
theorem sWhyTriangle_any (z : Int) (s : ByteArray) (i k : Int) (w : World) :
    Calls Tryd.prog 23 #[.agg #[.int .i64 z, .string s], .int .i64 i, .int .i64 k] w fun e w' => e = .returned (.int .i64 (whyI z s i k)) ∧ Below w.heap.size w w' := by
  rcases nodB_cases z s i k with h | ⟨n, R, i, k, hR, hi, hk, rfl, rfl, rfl, rfl⟩
  · have HV := hid (whyI_off (z := z) (s := s) (i := i) (k := k) (by unfold nodB at h; exact h))
    have HN := hid h
    clear h
    have HS := AllLt.start w; have hn2 := lt2; have hn3 := lt3; have hn4 := lt4; go_enter Tryd.func23, Tryd.ntmps23
    go_wp2_with (first | (go_at_call 44; (with_reducible refine (l5Nodes_any z s i k _).mono ?_); rintro e w' ⟨rfl, hb⟩; obtain ⟨HB, hz0, hz, hc, hf⟩ := bst (w0 := w) (by go_grown) hb; clear hb; (try simp at hz); (first | ((refine HS.g5 (m := w'.heap.size) ?_ ?_); (focus omega); intro HS) | ((refine HS.g4 (m := w'.heap.size) ?_ ?_); (focus omega); intro HS) | ((refine HS.g3 (m := w'.heap.size) ?_ ?_); (focus omega); intro HS) | ((refine HS.g2 (m := w'.heap.size) ?_ ?_); (focus omega); intro HS) | ((refine HS.g1 (m := w'.heap.size) ?_ ?_); (focus omega); intro HS) | ((refine HS.g0 (m := w'.heap.size) ?_ ?_); (focus omega); intro HS)); have HU := HS; simp only [AllLt] at HU; rw [HN.out]))
    go_ret
    exact ⟨ret_int HV.out.symm, by (repeat' (first | (with_reducible exact Below.refl _ _) | (with_reducible refine Below.setCell ?_ ?_ _) | (with_reducible refine below_drewN' ?_ _) | (with_reducible refine below_drew' ?_) | (with_reducible refine Below.alloc ?_ ?_ _) | (with_reducible assumption) | go_size))⟩
  · have HN := hid (nodB_in hR hi hk)
    have HI0 := hid (SI.made w (n : Int) (netS n R) 25)
    have h6 := hR.le
    have HOP := hid (l5Open_any n h6 R hR.lt)
    have HLT := hid hR.lt
    have HRI := hid (rinI_in hR hi hk)
    have HW1 := hid (fun hw => whyI_yes hR hi hk hw)
    have HW2 := hid (fun hw => whyI_none hR hi hk hw)
    clear hR
    generalize netS n R = s at *
    have HS := AllLt.start w; go_enter Tryd.func23, Tryd.ntmps23
    go_wp2_with fail
    (with_reducible refine (l5Nodes_any _ _ _ _ _).mono ?_)
    rintro e w1 ⟨rfl, hb⟩
    rw [HN.out]
    have HI1 := hid (HI0.out.below hb)
    clear hb
    go_wp2_with fail
    (with_reducible refine (l3Table_any _).mono ?_)
    rintro e w2 ⟨⟨o, rfl, ho, htab⟩, hb⟩
    have HI2 := hid (HI1.out.below hb)
    have HTB2 := hid htab
    have q0 := HI2.out.a0
    have q1 := HI2.out.a1
    clear hb htab ho
    go_wp2_with fail
    (with_reducible refine (HOP.out _).mono ?_)
    rintro e w3 ⟨⟨u, rfl, hown⟩, hb⟩
    have HI3 := hid ((HI2.out.below hb).below ((Below.refl w3.heap.size w3).alloc (Nat.le_refl _) (.cells #[.int .i64 (n : Int), u] 51)))
    have HTB3 := hid ((HTB2.out.below hb).below ((Below.refl w3.heap.size w3).alloc (Nat.le_refl _) (.cells #[.int .i64 (n : Int), u] 51)))
    have HOW3 := hid (hown.alloc (.cells #[.int .i64 (n : Int), u] 51))
    have HTk := hid (Tk.made w3 n u)
    obtain ⟨ao, n', cap, rfl⟩ : ∃ ao n' cap, u = .slice ao n' cap := by
      rcases hown.2 with ⟨hv, _⟩ | ⟨g, cap, cur, hv, _⟩
      · exact ⟨_, _, _, hv⟩
      · exact ⟨_, _, _, hv⟩
    clear hb hown q0 q1
    go_upto_region 5 with fail
    generalize w3.alloc (.cells #[.int .i64 (n : Int), .slice ao n' cap] 51) = w4 at *
    go_wp2_with fail
    go_loopw [9] (fun v wr => ∃ b : Nat, b ≤ n ∧ v = .int .i64 b ∧ Hid (∀ x, x < b → whyP R i k x = false) ∧ Hid (Below w4.heap.size w4 wr)) (fun v _ => n - (intOf v).toNat)
    case atStart => exact ⟨0, by omega, rfl, hid (fun x hx => by omega), hid (Below.refl _ _)⟩
    case round =>
      obtain ⟨b, hb, rfl, HF, HX4⟩ := hrel
      clear HS
      obtain ⟨wi, rfl⟩ : ∃ wi : World, wi = wr := ⟨_, rfl⟩
      have HI := hid (HI3.out.below HX4.out)
      have q0 := HI.out.a0
      by_cases hbn : b < n
      · have hdb : decide ((b : Int) < (n : Int)) = true := by simp; omega
        have q1 := HI.out.a1
        have HTi := hid (HTk.out.below HX4.out HTk.out.lt)
        have t0 := HTi.out.c0
        have t1 := HTi.out.c1
        have hl := HI.out.lt
        have ht := HTi.out.lt
        have HCx := hid (show ∀ W, Below wi.heap.size wi W → TC W o ∧ o < W.heap.size ∧ Ts W W.heap.size (.slice ao n' cap) (n * n) (fl n R) from fun W hW => by
          have h1 := (HTB3.out.below HX4.out).below hW
          exact ⟨TC.of h1, h1.lt, ts_fl (own_below' (own_below' HOW3.out HX4.out) hW)⟩)
        cases hw : whyP R i k b
        all_goals
          have HW := hid hw
        · have hq : (((triN R i k b : Nat) : Int) != ((R i k : Nat) : Int)) = false := by
            have : triN R i k b = R i k := by simpa [whyP] using hw
            rw [this]; simp
          have HF2 := hid (show ∀ x, x < b + 1 → whyP R i k x = false from fun x hx => by
            by_cases e : x < b
            · exact HF.out x e
            · obtain rfl : x = b := by omega
              exact hw)
          clear hw
          go_wp2_with fail
          go_region_held3 (fun wx => wx.cell? ⟨w.heap.size, 0, none⟩ = some (.int .i64 (n : Int)) ∧ wx.cell? ⟨w.heap.size, 1, none⟩ = some (.string s) ∧ wx.cell? ⟨w3.heap.size, 0, none⟩ = some (.int .i64 (n : Int)) ∧ wx.cell? ⟨w3.heap.size, 1, none⟩ = some (.slice ao n' cap)) (first | exact ⟨q0, q1, t0, t1⟩ | exact ⟨by rw [HX.cell (p := ⟨w.heap.size, 0, none⟩) hl]; exact q0, by rw [HX.cell (p := ⟨w.heap.size, 1, none⟩) hl]; exact q1, by rw [HX.cell (p := ⟨w3.heap.size, 0, none⟩) ht]; exact t0, by rw [HX.cell (p := ⟨w3.heap.size, 1, none⟩) ht]; exact t1⟩)
            (first
              | (go_at_call 55; (with_reducible refine (l6Tri_any o n h6 R HLT.out i k b hi hk hbn (.slice ao n' cap) _ (HCx.out _ (by go_grown)).1 (HCx.out _ (by go_grown)).2.1 (HCx.out _ (by go_grown)).2.2).mono ?_); rintro e w' ⟨rfl, hb'⟩; obtain ⟨HX, hz0, hz, hc, hf⟩ := bst (w0 := wi) (by go_grown) hb'; clear hb' hf hc hz hz0)
              | (go_at_call 41; (with_reducible refine (sRelIn_any _ _ _ _ _).mono ?_); rintro e w' ⟨rfl, hb'⟩; rw [HRI.out]; obtain ⟨HX, hz0, hz, hc, hf⟩ := bst (w0 := wi) (by go_grown) hb'; clear hb' hf hc hz hz0)
              | fail)
          all_goals
            go_wp2_with fail
            go_roundw
            case rel => exact ⟨b + 1, by omega, by go_num, HF2, hid (HX4.out.trans (HX.mono HX4.out.size))⟩
            case measure => simp [intOf]; omega
        · have hq : (((triN R i k b : Nat) : Int) != ((R i k : Nat) : Int)) = true := by
            have : ¬ triN R i k b = R i k := by simpa [whyP] using hw
            rw [bne_iff_ne]; omega
          have HV0 := hid (why_hit hbn hw HF.out)
          have HV := hid (show whyI n s i k = (b : Int) by
            rw [HW1.out (by rw [whyB, HV0.out]; rfl), whyN, HV0.out]; rfl)
          clear hw
          go_wp2_with fail
          go_region_held3 (fun wx => wx.cell? ⟨w.heap.size, 0, none⟩ = some (.int .i64 (n : Int)) ∧ wx.cell? ⟨w.heap.size, 1, none⟩ = some (.string s) ∧ wx.cell? ⟨w3.heap.size, 0, none⟩ = some (.int .i64 (n : Int)) ∧ wx.cell? ⟨w3.heap.size, 1, none⟩ = some (.slice ao n' cap)) (first | exact ⟨q0, q1, t0, t1⟩ | exact ⟨by rw [HX.cell (p := ⟨w.heap.size, 0, none⟩) hl]; exact q0, by rw [HX.cell (p := ⟨w.heap.size, 1, none⟩) hl]; exact q1, by rw [HX.cell (p := ⟨w3.heap.size, 0, none⟩) ht]; exact t0, by rw [HX.cell (p := ⟨w3.heap.size, 1, none⟩) ht]; exact t1⟩)
            (first
              | (go_at_call 55; (with_reducible refine (l6Tri_any o n h6 R HLT.out i k b hi hk hbn (.slice ao n' cap) _ (HCx.out _ (by go_grown)).1 (HCx.out _ (by go_grown)).2.1 (HCx.out _ (by go_grown)).2.2).mono ?_); rintro e w' ⟨rfl, hb'⟩; obtain ⟨HX, hz0, hz, hc, hf⟩ := bst (w0 := wi) (by go_grown) hb'; clear hb' hf hc hz hz0)
              | (go_at_call 41; (with_reducible refine (sRelIn_any _ _ _ _ _).mono ?_); rintro e w' ⟨rfl, hb'⟩; rw [HRI.out]; obtain ⟨HX, hz0, hz, hc, hf⟩ := bst (w0 := wi) (by go_grown) hb'; clear hb' hf hc hz hz0)
              | fail)
          all_goals
            go_wp2_with fail
            go_ret
            exact ⟨ret_int HV.out.symm, HI3.out.bel.trans ((HX4.out.trans (HX.mono HX4.out.size)).mono HI3.out.bel.size)⟩
      · obtain rfl : b = n := by omega
        have hdb : decide ((b : Int) < (b : Int)) = false := by simp
        have HV0 := hid (why_miss HF.out)
        have HV := hid (show whyI b s i k = -1 by
          rw [HW2.out (by rw [whyB, HV0.out]; rfl)])
        go_wp2_with fail
        go_ret
        exact ⟨ret_int HV.out.symm, HI.out.bel⟩
end Go.Proofs.YtnogdjmciekieaaDoor.C
