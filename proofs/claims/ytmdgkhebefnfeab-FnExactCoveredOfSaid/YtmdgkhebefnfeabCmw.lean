/- The library's CompactFunc over the ends of intervals. -/
import Derived.Test.YtmdgkhebefnfeabCmf
import Derived.Laws.IdiomCopy
namespace Go.Proofs.Ytmdgkhebefnfeab.C
open Go.RowKit
set_option linter.unusedVariables false
set_option linter.unusedSimpArgs false
theorem Wr.setCells (q : Nat) : ∀ (vs : List Value) (o : Nat) (w : World), Wr q w (w.setCells q o vs)
  | [], _, w => Wr.refl q w
  | v :: vs, o, w => (Wr.setCell w q o v).trans (Wr.setCells q vs (o + 1) (w.setCell ⟨q, o, none⟩ v))
theorem Sb.cut {b n k : Nat} {f : Nat → Int} {w w1 : World} (h : Sb b n f w w1) (hk : k ≤ n) (vs : List Value) : Sb b k f w (w1.setCells b k vs) := by
  refine ⟨h.wr.trans (Wr.setCells b vs k w1), Nat.lt_of_lt_of_le h.lt (Wr.setCells b vs k w1).size, fun i hi => ?_, fun i hi => ?_⟩
  · rw [World.cell?_setCells_out b vs k w1 ⟨b, i, none⟩ (fun _ _ => .inl hi)]; exact h.c i (by omega)
  · rw [World.frozen?_setCells]; exact h.fr i (by omega)
theorem Sb.put {b n k : Nat} {f : Nat → Int} {w w1 : World} (h : Sb b n f w w1) (hk : k < n) (x : Int) : Sb b n (putF f k x) w (w1.setCell ⟨b, k, none⟩ (.int .i64 x)) := by
  refine ⟨h.wr.trans (Wr.setCell _ _ _ _), by simpa using h.lt, fun i hi => ?_, fun i hi => by simpa [go_sem] using h.fr i hi⟩
  have c1 := h.c i hi
  unfold putF
  by_cases e : i = k
  · subst e; simp [go_sem, c1]
  · have e' : ¬ k = i := fun h => e h.symm
    simp [go_sem, e, e', c1]
theorem Tv.set {w : World} {g b i : Nat} {u v x : Value} (h : Tv w g u v) (hg : g ≠ b) : Tv (w.setCell ⟨b, i, none⟩ x) g u v := h.wr (Wr.setCell w b i x) hg
theorem Ded.start {f : Nat → Int} {n : Nat} (h : UpS f n) : Ded f n f n := ⟨Nat.le_refl _, h, fun _ => Iff.rfl⟩
theorem Cmi.ded {f h : Nat → Int} {n k : Nat} (hC : Cmi f h n n k) : Ded f n h k := ⟨by have := hC.km; omega, hC.up, hC.mem⟩
set_option maxHeartbeats 2000000 in
set_option maxRecDepth 100000 in
theorem compactF_any (g : Nat) (u v : Value) (b cap n : Nat) (f : Nat → Int) (w : World) (hn : n ≤ 12) (h1 : n ≤ cap) (hU : Up f n) (hS : Sb b n f w w) (hT : Tv w g u v) (hgb : g ≠ b) :
    Calls Try.prog 70 #[.slice (some ⟨b, 0, none⟩) n cap, .func (.func 71) #[] #[.pointer (some ⟨g, 0, none⟩)]] w
      fun e w' => ∃ k h, e = .returned (.slice (some ⟨b, 0, none⟩) k cap) ∧ Ded f n h k ∧ Sb b k h w w' := by
  have HS0 := hid hS
  have HT0 := hid hT
  have HU := hid hU
  have hcf := teq_in
  clear hS hT hU
  by_cases hs : n < 2
  · have hd : decide ((n : Int) < 2) = true := by simp; omega
    have HS := AllLt.start w; go_enter Try.func70, Try.ntmps70
    go_wp2
    go_ret
    exact ⟨n, f, rfl, Ded.start (fun p q h1 h2 => by omega), HS0.out⟩
  · have hd : decide ((n : Int) < 2) = false := by simp; omega
    have HS := AllLt.start w; go_enter Try.func70, Try.ntmps70
    go_wp2_with fail
    go_loopw [5] (fun q wr => ∃ k : Nat, 1 ≤ k ∧ k ≤ n ∧ q = .int .i64 k ∧ Hid (UpS f k) ∧ Hid (Sb b n f w wr) ∧ Hid (Tv wr g u v)) (fun q _ => n - (intOf q).toNat)
    case atStart => exact ⟨1, by omega, by omega, by go_num, hid (fun p q h1 h2 => by omega), HS0, HT0⟩
    case round =>
      obtain ⟨k, hk1, hk2, rfl, HP, HB, HV⟩ := hrel
      clear HS0 HT0 HS
      obtain ⟨wi, rfl⟩ : ∃ wi : World, wi = wr := ⟨_, rfl⟩
      by_cases hkn : k < n
      · have hdk : decide ((k : Int) < (n : Int)) = true := by simp; omega
        have hk1n : k - 1 < n := by omega
        have c0 := HB.out.c k hkn
        have c1 := HB.out.c (k - 1) hk1n
        have zb := HB.out.lt
        have zg := HV.out.lt
        have hd1 : decide (k < n) = true := decide_eq_true hkn
        have hd2 : decide (k - 1 < n) = true := decide_eq_true hk1n
        have hp0 : (0 : Int) ≤ (k : Int) - 1 := by omega
        have hp1 : (k : Int) - 1 < (n : Int) := by omega
        have hp2 : ¬ ((k : Int) - 1 < 0) := by omega
        have hp3 : decide ((0 : Int) ≤ (k : Int) - 1) = true := decide_eq_true hp0
        have hp4 : decide ((k : Int) - 1 < (n : Int)) = true := decide_eq_true hp1
        have hp5 : decide ((k : Int) - 1 < 0) = false := decide_eq_false hp2
        have hp6 : ((k : Int) - 1).toNat = k - 1 := by omega
        have hp8 : wrap64 ((k : Int) - 1) = (k : Int) - 1 := IntWalk.wrap64_in _ (by omega)
        have hp9 : (1 : Int) ≤ (k : Int) := by omega
        have hp10 : ¬ (n : Int) ≤ (k : Int) - 1 := by omega
        have hp11 : (k : Int) - 1 ≤ (n : Int) := by omega
        have hp7 : IntKind.i64.wrap ((k : Int) - 1) = (k : Int) - 1 := IntWalk.i64_in _ (by omega)
        have HNX := hid (fun (hne : ¬ f k = f (k - 1)) => up_ext HU.out HP.out hkn (by omega) hne)
        have HST := hid (fun (he : f k = f (k - 1)) => Cmi.start (n := n) (by omega : 0 < k) HP.out he)
        generalize hx : f k = x at *
        generalize hy : f (k - 1) = y at *
        have HXE := hid hx
        have HYE := hid hy
        clear hx hy
        cases he : decide (x = y)
        · have hne := of_decide_eq_false he
          have HG := hid (HNX.out hne)
          clear HNX HST hne
          go_wp2_with fail
          go_region_held3 (fun wx => wx.cell? ⟨b, k, none⟩ = some (.int .i64 x) ∧ wx.cell? ⟨b, k - 1, none⟩ = some (.int .i64 y))
            (first | exact ⟨c0, c1⟩ | exact ⟨by rw [HX.cell (p := ⟨b, k, none⟩) zb]; exact c0, by rw [HX.cell (p := ⟨b, k - 1, none⟩) zb]; exact c1⟩ | go_keep)
            (first | (go_at_call 71; (with_reducible refine (teq_any g u v _ _ _ (HV.out.below (B := wi.heap.size) (by go_grown) zg)).mono ?_); rintro e w' ⟨rfl, hb⟩; obtain ⟨HX, hz0, hz, hcx, hfx⟩ := bst (w0 := wi) (by go_grown) hb; clear hb hz0 hz hcx hfx) | fail)
          all_goals
            have HB2 := hid (HB.out.below HX)
            have HV2 := hid (HV.out.below HX zg)
            clear HX c0 c1
            go_wp2_with fail
            go_roundw
            case rel => exact ⟨k + 1, by omega, by omega, by go_num, HG, HB2, HV2⟩
            case measure => simp [intOf]; omega
        · have hee := of_decide_eq_true he
          have HG := hid (HST.out hee)
          clear HNX HST hee
          go_wp2_with fail
          go_region_held3 (fun wx => wx.cell? ⟨b, k, none⟩ = some (.int .i64 x) ∧ wx.cell? ⟨b, k - 1, none⟩ = some (.int .i64 y))
            (first | exact ⟨c0, c1⟩ | exact ⟨by rw [HX.cell (p := ⟨b, k, none⟩) zb]; exact c0, by rw [HX.cell (p := ⟨b, k - 1, none⟩) zb]; exact c1⟩ | go_keep)
            (first | (go_at_call 71; (with_reducible refine (teq_any g u v _ _ _ (HV.out.below (B := wi.heap.size) (by go_grown) zg)).mono ?_); rintro e w' ⟨rfl, hb⟩; obtain ⟨HX, hz0, hz, hcx, hfx⟩ := bst (w0 := wi) (by go_grown) hb; clear hb hz0 hz hcx hfx) | fail)
          all_goals
            have HB2 := hid (HB.out.below HX)
            have HV2 := hid (HV.out.below HX zg)
            clear HX c0 c1
            go_wp2_with fail
            clear HB HV
            go_loopw [5, 7] (fun q5 q7 wr => ∃ (kk j : Nat) (h : Nat → Int), q5 = .int .i64 kk ∧ q7 = .int .i64 j ∧ 1 ≤ j ∧ k + j ≤ n ∧ Hid (Cmi f h n (k + j) kk) ∧ Hid (Sb b n h w wr) ∧ Hid (Tv wr g u v)) (fun _ q7 _ => n - (intOf q7).toNat)
            case atStart => exact ⟨k, 1, f, rfl, by go_num, by omega, by omega, HG, HB2, HV2⟩
            case round =>
              obtain ⟨kk, j, h, rfl, rfl, hj1, hj2, HC, HB, HV⟩ := hrel
              clear HG HB2 HV2
              have hkm := HC.out.km
              have hkp := HC.out.kp
              obtain ⟨wj, rfl⟩ : ∃ wj : World, wj = wr := ⟨_, rfl⟩
              by_cases hjn : k + j < n
              · have hdj : decide ((j : Int) < ((n - k : Nat) : Int)) = true := by simp; omega
                go_wp2_with fail
                have hm1 : k + j < n := hjn
                have hm2 : k + (j - 1) < n := by omega
                have c0 := HB.out.c (k + j) hm1
                have c1 := HB.out.c (k + (j - 1)) hm2
                rw [HC.out.rest (k + j) (by omega)] at c0
                rw [HC.out.rest (k + (j - 1)) (by omega)] at c1
                have ck := HB.out.c kk (by omega)
                have fk := HB.out.fr kk (by omega)
                have zb := HB.out.lt
                have zg := HV.out.lt
                generalize hnk : n - k = m at *
                have hjm : j < m := by omega
                have hd1 : decide (j < m) = true := decide_eq_true hjm
                have hd2 : decide (j - 1 < m) = true := decide_eq_true (by omega)
                have hp0 : (0 : Int) ≤ (j : Int) - 1 := by omega
                have hp1 : (j : Int) - 1 < (m : Int) := by omega
                have hp2 : ¬ ((j : Int) - 1 < 0) := by omega
                have hp3 : decide ((0 : Int) ≤ (j : Int) - 1) = true := decide_eq_true hp0
                have hp4 : decide ((j : Int) - 1 < (m : Int)) = true := decide_eq_true hp1
                have hp5 : decide ((j : Int) - 1 < 0) = false := decide_eq_false hp2
                have hp6 : ((j : Int) - 1).toNat = j - 1 := by omega
                have hp8 : wrap64 ((j : Int) - 1) = (j : Int) - 1 := IntWalk.wrap64_in _ (by omega)
                have hp9 : (1 : Int) ≤ (j : Int) := by omega
                have hp10 : ¬ (m : Int) ≤ (j : Int) - 1 := by omega
                have hp11 : (j : Int) - 1 ≤ (m : Int) := by omega
                have hp7 : IntKind.i64.wrap ((j : Int) - 1) = (j : Int) - 1 := IntWalk.i64_in _ (by omega)
                have hq1 : decide (kk < n) = true := decide_eq_true (by omega)
                have hkj : k + j - 1 = k + (j - 1) := by omega
                have HSK := hid (fun (he : f (k + j) = f (k + (j - 1))) => HC.out.skip (by rw [hkj]; exact he))
                have HKP := hid (fun (hne : ¬ f (k + j) = f (k + (j - 1))) => HC.out.keep HU.out hm1 (by rw [hkj]; exact hne))
                have hlt : kk < k + j := by omega
                clear HC hkj
                generalize hx2 : f (k + j) = x2 at *
                generalize hy2 : f (k + (j - 1)) = y2 at *
                have HX2 := hid hx2
                have HY2 := hid hy2
                clear hx2 hy2
                have HNK := hid hnk
                clear hnk
                cases he : decide (x2 = y2)
                · have HG := hid (HKP.out (of_decide_eq_false he))
                  clear HSK HKP
                  go_region_held3 (fun wx => wx.cell? ⟨b, k + j, none⟩ = some (.int .i64 x2) ∧ wx.cell? ⟨b, k + (j - 1), none⟩ = some (.int .i64 y2))
                    (first | exact ⟨c0, c1⟩ | exact ⟨by rw [HX.cell (p := ⟨b, k + j, none⟩) zb]; exact c0, by rw [HX.cell (p := ⟨b, k + (j - 1), none⟩) zb]; exact c1⟩ | go_keep)
                    (first | (go_at_call 71; (with_reducible refine (teq_any g u v _ _ _ (HV.out.below (B := wj.heap.size) (by go_grown) zg)).mono ?_); rintro e w' ⟨rfl, hb⟩; obtain ⟨HX, hz0, hz, hcx, hfx⟩ := bst (w0 := wj) (by go_grown) hb; clear hb hz0 hz hcx hfx) | fail)
                  all_goals
                    have HB2 := hid (HB.out.below HX)
                    have HV2 := hid (HV.out.below HX zg)
                    have d0 := (HX.cell (p := ⟨b, k + j, none⟩) zb).trans c0
                    have dk := (HX.cell (p := ⟨b, kk, none⟩) zb).trans ck
                    have df := (HX.frozen (p := ⟨b, kk, none⟩) zb).trans fk
                    clear HX c0 c1 ck fk
                    go_wp2_with fail
                    have HB3 := hid (HB2.out.put (k := kk) (by omega) x2)
                    have HV3 := hid (HV2.out.set (b := b) (i := kk) (x := .int .i64 x2) hgb)
                    clear HB2 HV2 d0 dk df
                    have hm0 := HNK.out
                    subst hm0
                    go_roundw
                    case rel =>
                      exact ⟨kk + 1, j + 1, _, by go_num, by go_num, by omega, by omega, HG, HB3, HV3⟩
                    case measure => simp [intOf]; omega
                · have HG := hid (HSK.out (of_decide_eq_true he))
                  clear HSK HKP ck fk
                  go_region_held3 (fun wx => wx.cell? ⟨b, k + j, none⟩ = some (.int .i64 x2) ∧ wx.cell? ⟨b, k + (j - 1), none⟩ = some (.int .i64 y2))
                    (first | exact ⟨c0, c1⟩ | exact ⟨by rw [HX.cell (p := ⟨b, k + j, none⟩) zb]; exact c0, by rw [HX.cell (p := ⟨b, k + (j - 1), none⟩) zb]; exact c1⟩ | go_keep)
                    (first | (go_at_call 71; (with_reducible refine (teq_any g u v _ _ _ (HV.out.below (B := wj.heap.size) (by go_grown) zg)).mono ?_); rintro e w' ⟨rfl, hb⟩; obtain ⟨HX, hz0, hz, hcx, hfx⟩ := bst (w0 := wj) (by go_grown) hb; clear hb hz0 hz hcx hfx) | fail)
                  all_goals
                    have HB2 := hid (HB.out.below HX)
                    have HV2 := hid (HV.out.below HX zg)
                    clear HX c0 c1
                    go_wp2_with fail
                    have hm0 := HNK.out
                    subst hm0
                    go_roundw
                    case rel =>
                      exact ⟨kk, j + 1, h, rfl, by go_num, by omega, by omega, HG, HB2, HV2⟩
                    case measure => simp [intOf]; omega
              · have hend : k + j = n := by omega
                have hdj : decide ((j : Int) < ((n - k : Nat) : Int)) = false := by simp; omega
                have hcl : ∀ ty, (Builtin.clear_ #[49] ty #[.slice (some ⟨b, kk, none⟩) (n - kk) (cap - kk)]).run Try.prog wj = .ok (.tuple #[]) (wj.setCells b kk (List.replicate (n - kk) (.int .i64 0))) :=
                  fun ty => Go.Lib.run_clear_slice wj 49 56 ty (.int .i64 0) (by kernel_rfl) (fun w => by kernel_rfl) rfl rfl b kk (n - kk) (cap - kk) (by omega) (fun i hi => by rw [HB.out.c (kk + i) (by omega)]; rfl) (fun i hi => HB.out.fr (kk + i) (by omega))
                go_wp2_with fail
                have HC2 := hid (show Cmi f h n n kk from by have := HC.out; rw [hend] at this; exact this)
                have HB3 := hid (HB.out.cut (k := kk) (by omega) (List.replicate (n - kk) (.int .i64 0)))
                go_ret
                exact ⟨kk, h, rfl, HC2.out.ded, HB3.out⟩
      · obtain rfl : k = n := by omega
        have hdk : decide ((k : Int) < (k : Int)) = false := by simp
        go_wp2_with fail
        go_ret
        exact ⟨k, f, rfl, Ded.start HP.out, HB.out⟩
end Go.Proofs.Ytmdgkhebefnfeab.C
