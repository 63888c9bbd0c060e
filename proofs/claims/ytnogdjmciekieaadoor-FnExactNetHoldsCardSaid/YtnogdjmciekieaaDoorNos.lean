/- The network of some intervals in the model; the exact law. -/
import Derived.Test.YtnogdjmciekieaaDoorNov
import Derived.Test.YtnogdjmciekieaaDoorNetO
namespace Go.Proofs.YtnogdjmciekieaaDoor.C
open Go.RowKit
set_option linter.unusedVariables false
set_option linter.unusedSimpArgs false
theorem sNetOf_off' (v : Value) (w : World) (hl : ∀ w1, Below w.heap.size w w1 → Calls Tryd.prog 26 #[v] w1 fun e w' => e = .returned (.bool false) ∧ Below w1.heap.size w1 w') :
    Calls Tryd.prog 8 #[v] w fun e w' => e = .returned (.tuple #[.agg #[.int .i64 0, .string ⟨#[]⟩], .bool false]) ∧ Below w.heap.size w w' := by
  have HI := hid (hl (w.alloc (.cells #[.int .i64 0, .string ⟨#[]⟩] 25)) ((Below.refl _ _).alloc (Nat.le_refl _) _))
  have HKr := hid (Nk.made w 0 ⟨#[]⟩)
  clear hl
  have HS := AllLt.start w; go_enter Tryd.func8, Tryd.ntmps8
  go_wp2_with fail
  (with_reducible refine HI.out.mono ?_)
  rintro e w2 ⟨rfl, hb⟩
  have HB := hid (((Below.refl w.heap.size w).alloc (Nat.le_refl _) (.cells #[.int .i64 0, .string ⟨#[]⟩] 25)).trans (hb.mono (by simp)))
  have HK := hid (HKr.out.below hb (by simp))
  clear hb
  have r0 := HK.out.c0
  have r1 := HK.out.c1
  have rf0 := HK.out.fr 0
  have rf1 := HK.out.fr 1
  go_wp2_with fail
  refine bodyPost_ret (by simp [results, Tryd.results8, go_sem, *]; try rfl) rfl ?_
  exact ⟨rfl, (HB.out.setCell (p := ⟨w.heap.size, 0, none⟩) (Nat.le_refl _) _).setCell (p := ⟨w.heap.size, 1, none⟩) (Nat.le_refl _) _⟩
theorem sh_j {k : Nat} (h : k < 13) : IntKind.i64.wrap ((2 : Int) ^ k) = ((2 ^ k : Nat) : Int) := by
  rcases nat13 h with rfl | rfl | rfl | rfl | rfl | rfl | rfl | rfl | rfl | rfl | rfl | rfl | rfl <;> decide +kernel
set_option maxHeartbeats 4000000 in
set_option maxRecDepth 100000 in
theorem sNetOf_on (b cap n : Nat) (F T : Nat → Int) (w : World) (h1 : n ≤ cap) (hR : Rv w b n F T) (hv : plV n F T = true) :
    Calls Tryd.prog 8 #[.slice (some ⟨b, 0, none⟩) n cap] w fun e w' => e = .returned (.tuple #[.agg #[.int .i64 n, .string (netS n (novR n F T))], .bool true]) ∧ Below w.heap.size w w' := by
  obtain ⟨i0, hi0, hz0, hz1, hz2⟩ := info_parts netInt
  have hn := (plV_iff.1 hv).1
  have h6 := hn.2
  have hvv := (plV_iff.1 hv).2
  have ho := nov_ok hv
  have h36 : n * n ≤ 36 := Nat.mul_le_mul h6 h6
  obtain ⟨L, hL⟩ : ∃ L : Nat → Nat, L = fun x => novR n F T (x / n) (x % n) := ⟨_, rfl⟩
  have HLT := hid (show ∀ x, L x < 8192 from fun x => by rw [hL]; exact ho.lt _ _)
  have HLA := hid (show ∀ i k, i < n → k < n → ∃ r, r < 13 ∧ batI (zn (F i) (F k) (T k)) (zn (T i) (F k) (T k)) = ((r : Nat) : Int) ∧ L (i * n + k) = 2 ^ r from fun i k hi hk =>
    ⟨rlN F T i k, (rl_lie hvv hi hk).1, (rl_lie hvv hi hk).2.1, by rw [hL]; show novR n F T ((i * n + k) / n) ((i * n + k) % n) = _; rw [(at_div hk).1, (at_div hk).2, novR_in hi hk]⟩)
  have HCB := hid (show catB L (n * n) = netS n (novR n F T) by rw [hL, catB_net])
  have HI := hid (l5All_any b cap n F T (w.alloc (.cells #[.int .i64 0, .string ⟨#[]⟩] 25)) (by omega) h1 (hR.below ((Below.refl _ _).alloc (Nat.le_refl _) _)))
  rw [hv] at HI
  have HKr := hid (Nk.made w 0 ⟨#[]⟩)
  have HR := hid hR
  clear hL hv hvv ho hR
  generalize netS n (novR n F T) = nets at *
  have HS := AllLt.start w; go_enter Tryd.func8, Tryd.ntmps8
  go_wp2_with fail
  (with_reducible refine HI.out.mono ?_)
  rintro e w2 ⟨rfl, hb⟩
  have HB2 := hid (((Below.refl w.heap.size w).alloc (Nat.le_refl _) (.cells #[.int .i64 0, .string ⟨#[]⟩] 25)).trans (hb.mono (by simp)))
  have hz2' : w.heap.size < w2.heap.size := by have := hb.size; simp at this; omega
  have HK2 := hid ((HKr.out.below hb (by simp)).below ((Below.refl _ w2).alloc (Nat.le_refl _) (.cells #[.int .i64 n, .slice none 0 0] 51)) hz2')
  have HBt := hid (HB2.out.alloc (Nat.le_of_lt hz2') (.cells #[.int .i64 n, .slice none 0 0] 51))
  have HT0 := hid (Tk.made w2 n (.slice none 0 0))
  clear hb HI HKr
  go_wp2_with fail
  go_loopw [5] (fun a wr => ∃ i : Nat, i ≤ n ∧ a = .int .i64 i ∧ ∃ u, Hid (Tk wr w2.heap.size n u) ∧ Hid (wr.ownsRow (w2.heap.size + 1) 3 1 u (i * n) (rowL L (i * n))) ∧ Hid (Nk wr w.heap.size 0 ⟨#[]⟩) ∧ Hid (Below w.heap.size w wr) ∧ Hid (w2.heap.size + 1 ≤ wr.heap.size)) (fun a _ => n - (intOf a).toNat)
  case atStart =>
    refine ⟨0, by omega, rfl, .slice none 0 0, HT0, ?_, HK2, HBt, hid (by simp)⟩
    rw [Nat.zero_mul]
    exact hid (World.ownsRow_nil _ _ _ _)
  case round =>
    obtain ⟨i, hi, rfl, u, HT, HO, HK, HB, HZ⟩ := hrel
    clear HS HT0 HK2 HBt
    by_cases hin : i < n
    · have hdi : decide ((i : Int) < (n : Int)) = true := by simp; omega
      go_wp2_with fail
      go_loopw [6] (fun a wr => ∃ k : Nat, k ≤ n ∧ a = .int .i64 k ∧ ∃ u, Hid (Tk wr w2.heap.size n u) ∧ Hid (wr.ownsRow (w2.heap.size + 1) 3 1 u (i * n + k) (rowL L (i * n + k))) ∧ Hid (Nk wr w.heap.size 0 ⟨#[]⟩) ∧ Hid (Below w.heap.size w wr) ∧ Hid (w2.heap.size + 1 ≤ wr.heap.size)) (fun a _ => n - (intOf a).toNat)
      case atStart => exact ⟨0, by omega, rfl, u, HT, HO, HK, HB, HZ⟩
      case round =>
        obtain ⟨k, hk, rfl, u, HT, HO, HK, HB, HZ⟩ := hrel
        obtain ⟨wi, rfl⟩ : ∃ wi : World, wi = wr := ⟨_, rfl⟩
        by_cases hkn : k < n
        · have hdk : decide ((k : Int) < (n : Int)) = true := by simp; omega
          obtain ⟨r, hr13, hbat, hLr⟩ := HLA.out i k hin hkn
          have hx36 := at_lt hin hkn
          have HBr := hid hbat
          have HLR := hid hLr
          clear hbat hLr
          generalize hxe : i * n + k = x at *
          have HXE := hid hxe
          clear hxe
          have t1 := HT.out.c1
          have hf := HT.out.fr 1
          have hRi := HR.out.below HB.out
          obtain ⟨x0, x1⟩ := hRi.2 i hin
          obtain ⟨y0, y1⟩ := hRi.2 k hkn
          have zb := hRi.1
          have hdx : decide (i < n) = true := decide_eq_true hin
          have hdy : decide (k < n) = true := decide_eq_true hkn
          have hzz : w2.heap.size < wi.heap.size := by have := HZ.out; omega
          have hzn : ¬ w2.heap.size = wi.heap.size := by omega
          have hzm : ¬ wi.heap.size = w2.heap.size := by omega
          have hne2 : some w2.heap.size ≠ u.ownBlock := fun e => by have := (HO.out.lt _ e.symm).1; omega
          have hne0 : some w.heap.size ≠ u.ownBlock := fun e => by have := (HO.out.lt _ e.symm).1; omega
          have H2 := hid hne2
          have H0 := hid hne0
          clear hne2 hne0 hRi
          generalize F i = fa at *
          generalize T i = fb at *
          generalize F k = fc at *
          generalize T k = fd at *
          have hsh : IntKind.i64.wrap (2 ^ min (IntKind.u64.wrap (r : Int)).toNat 64) = ((2 ^ r : Nat) : Int) := by rw [show min (IntKind.u64.wrap (r : Int)).toNat 64 = r by rw [IntKind.wrap_u64]; omega, sh_j hr13]
          generalize hqq : 2 ^ r = q at *
          have t2 : ∀ o : Obj, (wi.drew.alloc o).cell? ⟨w2.heap.size, 1, none⟩ = some u := fun o => (HT.out.below ((Below.refl wi.heap.size wi).drew.alloc (Nat.le_refl _) o) hzz).c1
          go_wp2_with fail
          go_region_law (first
            | (go_simp; go_at_call 27; (with_reducible refine (l2Rel_any _ _ _ _ _).mono ?_); rintro e w' ⟨rfl, hb⟩; rw [HBr.out]; obtain ⟨HX, hz0', hz', hcx, hfx⟩ := bst (w0 := wi) (by go_grown) hb; clear hb hz' hcx hfx; have HTx := hid (HT.out.below HX hzz); have tx1 := HTx.out.c1; have txf := HTx.out.fr 1; have tx2 := (fun o => (HTx.out.alloc o).c1); have hzw : ¬ w2.heap.size = w'.heap.size := (by have := HX.size; omega))
            | (refine step_append_lies _ (by rfl) _ _ 38 (by rfl) (w2.heap.size + 1) 3 i0 _ 1 8 Tryd.underlying38 hi0 hz0 hz1 hz2 rfl (by decide) u x (rowL L x) (by rfl) (own_below' HO.out (by (repeat' (first | (with_reducible exact Below.refl _ _) | (with_reducible refine Below.setCell ?_ ?_ _) | (with_reducible refine below_drewN' ?_ _) | (with_reducible refine below_drew' ?_) | (with_reducible refine Below.alloc ?_ ?_ _) | (with_reducible assumption) | go_size)))) ⟨w'.heap.size, 0, none⟩ 1 1 [.int .i64 ((q : Nat) : Int)] (by rfl) (by rfl) (World.news_of_block (cs := #[.int .i64 ((q : Nat) : Int)]) (fr := (0, 0)) (heap_alloc_new _ _)) (by simp [Value.oneCell']) (by omega) (by unfold maxLen; omega) (by omega) (by have := HZ.out; have := HX.size; simp; omega) _ rfl ?_
               intro g9 cap9 w9 hown hgrow _ hlt
               have HT9 := hid (tk_grown HT.out hgrow (by (repeat' (first | (with_reducible exact Below.refl _ _) | (with_reducible refine Below.setCell ?_ ?_ _) | (with_reducible refine below_drewN' ?_ _) | (with_reducible refine below_drew' ?_) | (with_reducible refine Below.alloc ?_ ?_ _) | (with_reducible assumption) | go_size))) H2.out)
               have HK9 := hid (nk_grown HK.out hgrow (by (repeat' (first | (with_reducible exact Below.refl _ _) | (with_reducible refine Below.setCell ?_ ?_ _) | (with_reducible refine below_drewN' ?_ _) | (with_reducible refine below_drew' ?_) | (with_reducible refine Below.alloc ?_ ?_ _) | (with_reducible assumption) | go_size))) H0.out)
               have HB9 := hid ((HB.out.trans (Below.mono (show Below wi.heap.size wi _ from by (repeat' (first | (with_reducible exact Below.refl _ _) | (with_reducible refine Below.setCell ?_ ?_ _) | (with_reducible refine below_drewN' ?_ _) | (with_reducible refine below_drew' ?_) | (with_reducible refine Below.alloc ?_ ?_ _) | (with_reducible assumption) | go_size))) HB.out.size)).grown hgrow (by have := HB.out.size; have := HX.size; simp; omega) (fun j hj => by have := (HO.out.lt j hj).1; omega))
               have HO9 := hid hown
               have HZ9 := hid (show w2.heap.size + 1 ≤ w9.heap.size by have := hgrow.size; have := HX.size; have := HZ.out; simp at *; omega)
               have t9 := HT9.out.c1
               have f9 := HT9.out.fr 1
               clear hown hgrow hlt))
          all_goals
            go_wp2_with fail
            go_roundw
            case rel =>
              refine ⟨k + 1, by omega, by go_num, _, hid (HT9.out.set1 _), ?_, hid (HK9.out.far (p := ⟨w2.heap.size, 1, none⟩) (show w.heap.size ≠ w2.heap.size by omega) _), hid (HB9.out.setCell (p := ⟨w2.heap.size, 1, none⟩) (by simp; omega) _), hid (by simpa using HZ9.out)⟩
              have h9 := HO9.out
              rw [show rowL L x ++ [.int .i64 ((q : Nat) : Int)] = rowL L (x + 1) by rw [← rowL_succ, HLR.out]] at h9
              exact hid (own_set (own_rowL h9 (by have := HXE.out; omega)) (p := ⟨w2.heap.size, 1, none⟩) (by simp) _)
            case measure => simp [intOf]; omega
        · obtain rfl : k = n := by omega
          have hdk : decide ((k : Int) < (k : Int)) = false := by simp
          go_wp2_with fail
          go_roundw
          case rel => exact ⟨i + 1, by omega, by go_num, u, HT, hid (own_rowL HO.out (by rw [Nat.add_mul, Nat.one_mul])), HK, HB, HZ⟩
          case measure => simp [intOf]; omega
    · obtain rfl : i = n := by omega
      have hdi : decide ((i : Int) < (i : Int)) = false := by simp
      obtain ⟨ao, n', cap', rfl⟩ : ∃ ao n' cap, u = .slice ao n' cap := by
        rcases HO.out.2 with ⟨hv, _⟩ | ⟨g, cap, cur, hv, _⟩
        · exact ⟨_, _, _, hv⟩
        · exact ⟨_, _, _, hv⟩
      have t0 := HT.out.c0
      have t1 := HT.out.c1
      have HC := hid (l5Close_any (i : Int) _ (i * i) h36 L (fun j _ => HLT.out j) _ (Ts.of_own HO.out))
      rw [HCB.out] at HC
      go_wp2_with fail
      (with_reducible refine HC.out.mono ?_)
      rintro e w4 ⟨rfl, hb⟩
      have HK4 := hid (HK.out.below hb HK.out.lt)
      have HB4 := hid (HB.out.trans (hb.mono HB.out.size))
      clear hb
      have r0 := HK4.out.c0
      have r1 := HK4.out.c1
      have rf0 := HK4.out.fr 0
      have rf1 := HK4.out.fr 1
      go_wp2_with fail
      refine bodyPost_ret (by simp [results, Tryd.results8, go_sem, *]; try rfl) rfl ?_
      exact ⟨rfl, (HB4.out.setCell (p := ⟨w.heap.size, 0, none⟩) (Nat.le_refl _) _).setCell (p := ⟨w.heap.size, 1, none⟩) (Nat.le_refl _) _⟩
end Go.Proofs.YtnogdjmciekieaaDoor.C
