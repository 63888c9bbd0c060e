/- BusyAt: the intervals in which a moment lies. -/
import Derived.Test.YtnogdjmciekieaaIvs
import Derived.Test.YtnogdjmciekieaaEndsX
import Derived.Test.YtnogdjmciekieaaLatM
import Derived.Deep.AppendLies
import Derived.Laws.AppendOwn
namespace Go.Proofs.Ytnogdjmciekieaa.C
open Go.RowKit
set_option linter.unusedVariables false
set_option linter.unusedSimpArgs false
theorem own_below9 {w w' : World} {base e size n : Nat} {v : Value} {xs : List Value} (h : w.ownsRow base e size v n xs) (hb : Below w.heap.size w w') : w'.ownsRow base e size v n xs :=
  h.kept (row := none) ⟨hb.os, hb.tape, hb.output, hb.size, fun k hk _ => hb.block k hk⟩ (by cases hv : v.ownBlock <;> simp)
def intC (l : List Nat) : List Value := l.map fun k => Value.int .i64 ((k : Nat) : Int)
theorem intC_snoc (l : List Nat) (k : Nat) : intC (l ++ [k]) = intC l ++ [.int .i64 ((k : Nat) : Int)] := by simp [intC]
theorem own_newSl {w w' : World} {t : TypeId} {v : Value} {l : List Nat} (h : w'.ownsRow w.heap.size t 1 v l.length (intC l)) (hb : Below w.heap.size w w') : NewSl w l.length (fun i => ((l.getD i 0 : Nat) : Int)) v w' := by
  have h0 := h
  refine ⟨hb, ?_⟩
  rcases h.2 with ⟨rfl, hn⟩ | ⟨g, cap, cur, rfl, hB, hg, h1, h2, h3, h4⟩
  · exact .inl ⟨hn, _, _, rfl⟩
  · refine .inr ⟨g, cap, rfl, h1, hB, (Array.getElem?_eq_some_iff.1 hg).1, fun i hi => ?_, fun i hi => h.frozenAt i⟩
    rw [h.cellAt i (by omega)]
    simp [intC, hi]
theorem NewSl.from {w w1 w2 : World} {n : Nat} {f : Nat → Int} {v : Value} (h : NewSl w1 n f v w2) (hb : Below w.heap.size w w1) : NewSl w n f v w2 := by
  refine ⟨hb.trans (h.1.mono hb.size), h.2.imp id ?_⟩
  rintro ⟨b, cap, h1, h2, h3, h4⟩
  exact ⟨b, cap, h1, h2, Nat.le_trans hb.size h3, h4⟩
def bsyP (F T : Nat → Int) (x : Int) (i : Nat) : Bool := decide (F i ≤ x) && decide (x < T i)
def bsyL (F T : Nat → Int) (x : Int) (n : Nat) : List Nat := bl (bsyP F T x) n
theorem bsyL_hit {F T : Nat → Int} {x : Int} {k : Nat} (h : bsyP F T x k = true) : bsyL F T x (k + 1) = bsyL F T x k ++ [k] := bl_hit h
theorem bsyL_miss {F T : Nat → Int} {x : Int} {k : Nat} (h : bsyP F T x k = false) : bsyL F T x (k + 1) = bsyL F T x k := bl_miss h
theorem bsyL_len (F T : Nat → Int) (x : Int) (n : Nat) : (bsyL F T x n).length ≤ n := bl_len _ _
theorem intInfo9 : (Try.prog.info? 3).map (fun i => (i.zero, i.size, i.bytes)) = some (some (.int .i64 0), 1, 8) := by kernel_rfl
theorem iBusyAt_zero (a : Option Addr) (c : Nat) (x : Int) (w : World) :
    Calls Try.prog 19 #[.slice a 0 c, .int .i64 x] w (NewS w 0 fun _ => 0) := by
  have HS := AllLt.start w; go_enter Try.func19, Try.ntmps19
  go_wp2_with fail
  (with_reducible refine (isPlan_zero _ _ _).mono ?_)
  rintro e w2 ⟨rfl, hb⟩
  have HB := hid hb
  clear hb
  go_wp2_with fail
  go_ret
  exact ⟨_, rfl, HB.out, .inl ⟨rfl, _, _, rfl⟩⟩
theorem iBusyAt_off (b cap n : Nat) (F T : Nat → Int) (x : Int) (w : World) (hn : n ≤ 4611686018427387904) (h1 : n ≤ cap) (hR : Rv w b n F T) (h : plV n F T = false) :
    Calls Try.prog 19 #[.slice (some ⟨b, 0, none⟩) n cap, .int .i64 x] w (NewS w 0 fun _ => 0) := by
  have HI := hid (isPlan_any b cap n F T w hn h1 hR)
  rw [h] at HI
  clear hR h
  have HS := AllLt.start w; go_enter Try.func19, Try.ntmps19
  go_wp2_with fail
  (with_reducible refine HI.out.mono ?_)
  rintro e w2 ⟨rfl, hb⟩
  have HB := hid hb
  clear hb
  go_wp2_with fail
  go_ret
  exact ⟨_, rfl, HB.out, .inl ⟨rfl, _, _, rfl⟩⟩
set_option maxHeartbeats 1000000 in
theorem iBusyAt_on (b cap n : Nat) (F T : Nat → Int) (x : Int) (w : World) (h1 : n ≤ cap) (hR : Rv w b n F T) (h : plV n F T = true) :
    Calls Try.prog 19 #[.slice (some ⟨b, 0, none⟩) n cap, .int .i64 x] w (NewS w (bsyL F T x n).length fun i => (((bsyL F T x n).getD i 0 : Nat) : Int)) := by
  obtain ⟨⟨_, g6⟩, _⟩ := plV_iff.1 h
  have HI := hid (isPlan_any b cap n F T w (by omega) h1 hR)
  rw [h] at HI
  have HR := hid hR
  clear hR h
  obtain ⟨i0, hi0, hz0, hz1, hz2⟩ := info_parts intInfo9
  have HS := AllLt.start w; go_enter Try.func19, Try.ntmps19
  go_wp2_with fail
  (with_reducible refine HI.out.mono ?_)
  rintro e w2 ⟨rfl, hb⟩
  have HB2 := hid hb
  clear hb HI
  go_wp2_with fail
  go_loopw [13, 5] (fun u v wr => ∃ k : Nat, k ≤ n ∧ u = .int .i64 k ∧ Hid (wr.ownsRow w.heap.size 3 1 v (bsyL F T x k).length (intC (bsyL F T x k))) ∧ Hid (Below w.heap.size w wr)) (fun u _ _ => n - (intOf u).toNat)
  case atStart => exact ⟨0, by omega, rfl, hid (World.ownsRow_nil _ _ _ _), HB2⟩
  case round =>
    obtain ⟨k, hk, rfl, HO, HB⟩ := hrel
    clear HS HB2
    obtain ⟨wi, rfl⟩ : ∃ wi : World, wi = wr := ⟨_, rfl⟩
    by_cases hkl : k < n
    · have hdi : decide ((k : Int) < (n : Int)) = true := by simp; omega
      have hdj : decide (k < n) = true := by simp; omega
      obtain ⟨c0, c1⟩ := (HR.out.below HB.out).2 k hkl
      have HOA := hid (HO.out.alloc (.cells #[.int .i64 (F k), .int .i64 (T k)] 38))
      have HBA := hid (HB.out.alloc HB.out.size (.cells #[.int .i64 (F k), .int .i64 (T k)] 38))
      have hbl := bsyL_len F T x k
      by_cases hf : F k ≤ x
      · by_cases ht : x < T k
        · have HL := hid (bsyL_hit (F := F) (T := T) (x := x) (k := k) (by simp [bsyP, hf, ht]))
          generalize F k = y at *
          generalize T k = z at *
          have q1 : decide (y ≤ x) = true := decide_eq_true hf
          have q2 : decide (x < z) = true := decide_eq_true ht
          clear hf ht
          go_wp2_with (at_builtin; refine wpList_append_own _ rfl _ _ 31 rfl w.heap.size 3 i0 _ 1 8 Try.underlying31 hi0 hz0 hz1 hz2 rfl (by decide) _ _ _ rfl (HOA.out.alloc _) ⟨wi.heap.size + 1, 0, none⟩ 1 1 [.int .i64 ((k : Nat) : Int)] rfl rfl ?c1 ?c2 ?c3 ?c4 ?c5 ?_)
          case c1 =>
            intro j u hj
            match j, hj with
            | 0, hj => simp at hj; subst hj; simp [Addr.add]
          case c2 => intro u hu; simp at hu; subst hu; rfl
          case c3 => unfold maxLen; omega
          case c4 => omega
          case c5 => have := HB.out.size; simp; omega
          intro v' w3 hown' hgrow _
          have HO3 : Hid (w3.ownsRow w.heap.size 3 1 v' (bsyL F T x (k + 1)).length (intC (bsyL F T x (k + 1)))) := hid (by
            rw [HL.out, intC_snoc, List.length_append]; exact hown')
          have HB3 := hid ((HBA.out.alloc (by have := HB.out.size; simp; omega) _).grown hgrow (by have := HB.out.size; simp; omega) (fun j hj => (HOA.out.lt j hj).1))
          clear hown' hgrow
          go_wp2
          go_roundw
          case rel => exact ⟨k + 1, by omega, by go_num, HO3, HB3⟩
          case measure => simp [intOf]; omega
        · have HL := hid (bsyL_miss (F := F) (T := T) (x := x) (k := k) (by simp [bsyP, ht]))
          generalize F k = y at *
          generalize T k = z at *
          have q1 : decide (y ≤ x) = true := decide_eq_true hf
          have q2 : decide (x < z) = false := decide_eq_false ht
          clear hf ht
          go_wp2_with fail
          go_roundw
          case rel => exact ⟨k + 1, by omega, by go_num, by rw [HL.out]; exact HOA, HBA⟩
          case measure => simp [intOf]; omega
      · have HL := hid (bsyL_miss (F := F) (T := T) (x := x) (k := k) (by simp [bsyP, hf]))
        generalize F k = y at *
        generalize T k = z at *
        have q1 : decide (y ≤ x) = false := decide_eq_false hf
        clear hf
        go_wp2_with fail
        go_roundw
        case rel => exact ⟨k + 1, by omega, by go_num, by rw [HL.out]; exact HOA, HBA⟩
        case measure => simp [intOf]; omega
    · obtain rfl : k = n := by omega
      have hdi : decide ((k : Int) < (k : Int)) = false := by simp
      go_wp2
      go_ret
      exact ⟨_, rfl, own_newSl HO.out HB.out⟩
set_option maxHeartbeats 1000000 in
theorem l8Busy_any (b cap n : Nat) (F T : Nat → Int) (x : Int) (w : World) (g6 : n ≤ 6) (h1 : n ≤ cap) (hR : Rv w b n F T) :
    Calls Try.prog 43 #[.slice (some ⟨b, 0, none⟩) n cap, .int .i64 x] w (NewS w (bsyL F T x n).length fun i => (((bsyL F T x n).getD i 0 : Nat) : Int)) := by
  have HR := hid hR
  clear hR
  obtain ⟨i0, hi0, hz0, hz1, hz2⟩ := info_parts intInfo9
  have HS := AllLt.start w; go_enter Try.func43, Try.ntmps43
  go_wp2_with fail
  go_loopw [6, 5] (fun u v wr => ∃ k : Nat, k ≤ n ∧ u = .int .i64 k ∧ Hid (wr.ownsRow w.heap.size 3 1 v (bsyL F T x k).length (intC (bsyL F T x k))) ∧ Hid (Below w.heap.size w wr)) (fun u _ _ => n - (intOf u).toNat)
  case atStart => exact ⟨0, by omega, rfl, hid (World.ownsRow_made w #[] 0 (Nat.le_refl _) (by decide) rfl), hid ((Below.refl _ _).alloc (Nat.le_refl _) _)⟩
  case round =>
    obtain ⟨k, hk, rfl, HO, HB⟩ := hrel
    clear HS
    obtain ⟨wi, rfl⟩ : ∃ wi : World, wi = wr := ⟨_, rfl⟩
    by_cases hkl : k < n
    · have hdi : decide ((k : Int) < (n : Int)) = true := by simp; omega
      have hdj : decide (k < n) = true := by simp; omega
      obtain ⟨c0, c1⟩ := (HR.out.below HB.out).2 k hkl
      have hbl := bsyL_len F T x k
      by_cases hf : F k ≤ x
      · by_cases ht : x < T k
        · have HL := hid (bsyL_hit (F := F) (T := T) (x := x) (k := k) (by simp [bsyP, hf, ht]))
          generalize F k = y at *
          generalize T k = z at *
          have q1 : decide (y ≤ x) = true := decide_eq_true hf
          have q2 : decide (x < z) = true := decide_eq_true ht
          clear hf ht
          go_wp2_with (at_builtin; refine wpList_append_own _ rfl _ _ 31 rfl w.heap.size 3 i0 _ 1 8 Try.underlying31 hi0 hz0 hz1 hz2 rfl (by decide) _ _ _ rfl (HO.out.alloc _) ⟨wi.heap.size, 0, none⟩ 1 1 [.int .i64 ((k : Nat) : Int)] rfl rfl ?c1 ?c2 ?c3 ?c4 ?c5 ?_)
          case c1 =>
            intro j u hj
            match j, hj with
            | 0, hj => simp at hj; subst hj; simp [Addr.add]
          case c2 => intro u hu; simp at hu; subst hu; rfl
          case c3 => unfold maxLen; omega
          case c4 => omega
          case c5 => have := HB.out.size; simp; omega
          intro v' w3 hown' hgrow _
          have HO3 : Hid (w3.ownsRow w.heap.size 3 1 v' (bsyL F T x (k + 1)).length (intC (bsyL F T x (k + 1)))) := hid (by
            rw [HL.out, intC_snoc, List.length_append]; exact hown')
          have HB3 := hid ((HB.out.alloc (by have := HB.out.size; simp; omega) _).grown hgrow (by have := HB.out.size; simp; omega) (fun j hj => (HO.out.lt j hj).1))
          clear hown' hgrow
          go_wp2
          go_roundw
          case rel => exact ⟨k + 1, by omega, by go_num, HO3, HB3⟩
          case measure => simp [intOf]; omega
        · have HL := hid (bsyL_miss (F := F) (T := T) (x := x) (k := k) (by simp [bsyP, ht]))
          generalize F k = y at *
          generalize T k = z at *
          have q1 : decide (y ≤ x) = true := decide_eq_true hf
          have q2 : decide (x < z) = false := decide_eq_false ht
          clear hf ht
          go_wp2_with fail
          go_roundw
          case rel => exact ⟨k + 1, by omega, by go_num, by rw [HL.out]; exact HO, HB⟩
          case measure => simp [intOf]; omega
      · have HL := hid (bsyL_miss (F := F) (T := T) (x := x) (k := k) (by simp [bsyP, hf]))
        generalize F k = y at *
        generalize T k = z at *
        have q1 : decide (y ≤ x) = false := decide_eq_false hf
        clear hf
        go_wp2_with fail
        go_roundw
        case rel => exact ⟨k + 1, by omega, by go_num, by rw [HL.out]; exact HO, HB⟩
        case measure => simp [intOf]; omega
    · obtain rfl : k = n := by omega
      have hdi : decide ((k : Int) < (k : Int)) = false := by simp
      go_wp2
      go_ret
      exact ⟨_, rfl, own_newSl HO.out HB.out⟩
theorem sBusyAt_zero (a : Option Addr) (c : Nat) (x : Int) (w : World) :
    Calls Try.prog 18 #[.slice a 0 c, .int .i64 x] w (NewS w 0 fun _ => 0) := by
  have HS := AllLt.start w; go_enter Try.func18, Try.ntmps18
  go_wp2_with fail
  (with_reducible refine (l5All_zero _ _ _).mono ?_)
  rintro e w2 ⟨rfl, hb⟩
  have HB := hid hb
  clear hb
  go_wp2_with fail
  go_ret
  exact ⟨_, rfl, HB.out.alloc HB.out.size _, .inl ⟨rfl, _, _, rfl⟩⟩
theorem sBusyAt_off (b cap n : Nat) (F T : Nat → Int) (x : Int) (w : World) (hn : n ≤ 4611686018427387904) (h1 : n ≤ cap) (hR : Rv w b n F T) (h : plV n F T = false) :
    Calls Try.prog 18 #[.slice (some ⟨b, 0, none⟩) n cap, .int .i64 x] w (NewS w 0 fun _ => 0) := by
  have HI := hid (l5All_any b cap n F T w hn h1 hR)
  rw [h] at HI
  clear hR h
  have HS := AllLt.start w; go_enter Try.func18, Try.ntmps18
  go_wp2_with fail
  (with_reducible refine HI.out.mono ?_)
  rintro e w2 ⟨rfl, hb⟩
  have HB := hid hb
  clear hb
  go_wp2_with fail
  go_ret
  exact ⟨_, rfl, HB.out.alloc HB.out.size _, .inl ⟨rfl, _, _, rfl⟩⟩
theorem sBusyAt_on (b cap n : Nat) (F T : Nat → Int) (x : Int) (w : World) (h1 : n ≤ cap) (hR : Rv w b n F T) (h : plV n F T = true) :
    Calls Try.prog 18 #[.slice (some ⟨b, 0, none⟩) n cap, .int .i64 x] w (NewS w (bsyL F T x n).length fun i => (((bsyL F T x n).getD i 0 : Nat) : Int)) := by
  obtain ⟨⟨_, g6⟩, _⟩ := plV_iff.1 h
  have HI := hid (l5All_any b cap n F T w (by omega) h1 hR)
  rw [h] at HI
  have HR := hid hR
  clear hR h
  have HS := AllLt.start w; go_enter Try.func18, Try.ntmps18
  go_wp2_with fail
  (with_reducible refine HI.out.mono ?_)
  rintro e w2 ⟨rfl, hb⟩
  have HB2 := hid hb
  clear hb HI
  go_wp2_with fail
  (with_reducible refine (l8Busy_any _ _ _ _ _ _ _ g6 h1 (HR.out.below HB2.out)).mono ?_)
  rintro e w3 ⟨v, rfl, hv⟩
  have HV := hid hv
  clear hv
  go_wp2_with fail
  go_ret
  exact ⟨_, rfl, HV.out.from HB2.out⟩
theorem busy_both (len : Nat) (F T : Nat → Int) (x : Int) (hl : len ≤ 1048576) : ∃ (n : Nat) (f : Nat → Int), n ≤ 6 ∧ (∀ w b, Rv w b len F T → Calls Try.prog 18 #[.slice (some ⟨b, 0, none⟩) len len, .int .i64 x] w (NewS w n f)) ∧
    ∀ w b, Rv w b len F T → Calls Try.prog 19 #[.slice (some ⟨b, 0, none⟩) len len, .int .i64 x] w (NewS w n f) := by
  cases h : plV len F T
  · exact ⟨0, fun _ => 0, by omega, fun w b hR => sBusyAt_off b len len F T x w (by omega) (Nat.le_refl _) hR h, fun w b hR => iBusyAt_off b len len F T x w (by omega) (Nat.le_refl _) hR h⟩
  · obtain ⟨⟨_, g6⟩, _⟩ := plV_iff.1 h
    exact ⟨_, _, Nat.le_trans (bsyL_len F T x len) g6, fun w b hR => sBusyAt_on b len len F T x w (Nat.le_refl _) hR h, fun w b hR => iBusyAt_on b len len F T x w (Nat.le_refl _) hR h⟩
set_option maxHeartbeats 2000000 in
theorem walk_FnExactBusyAt (a0 : Option Addr) (len0 cap0 : Nat) (F0 T0 : Nat → Int) (a1 : Int) (w : World) (w0 : Row2 w a0 len0 cap0 F0 T0) (w1 : (Lit.int .i64 a1).wf = true) :
    Calls Try.prog 4 #[.slice a0 len0 cap0, .int .i64 a1] w fun e w' => e = .returned (.bool true) ∧ Below w.heap.size w w' := by
  clear w1
  by_cases hl : len0 ≤ 1048576
  · have hd : ¬ (1048576 - (len0 : Int) < 0) := by omega
    have HA := hid w0
    clear w0
    obtain ⟨n, f, hn, hS, hI⟩ := busy_both len0 F0 T0 a1 hl
    have HSp := hid hS
    have HIm := hid hI
    clear hS hI
    have HQ1 := hid (show decide (((1 + 2 * len0 : Nat) : Int) < 0) = false by simp; omega)
    have HQ2 := hid (show decide (((1 + n : Nat) : Int) < 0) = false by simp; omega)
    have HQ3 := hid (show (((1 + n : Nat) : Int) != ((1 + n : Nat) : Int)) = false by simp)
    have HS := AllLt.start w; go_enter Try.func4, Try.ntmps4
    go_wp2_with fail
    (with_reducible refine (szIv_on _ _ _ hl _).mono ?_)
    rintro e _ ⟨rfl, rfl⟩
    go_wp2_with fail
    (with_reducible refine (toIv_any _ _ _ F0 T0 hl _ HA.out).mono ?_)
    rintro e wa ⟨b1, rfl, hb1, hr1, hf1, hB1⟩
    have HR1 := hid hr1
    have HB1 := hid hB1
    clear hr1 hf1 hB1 hb1
    go_wp2_with fail
    (with_reducible refine (HSp.out _ _ HR1.out).mono ?_)
    rintro e wb ⟨v0, rfl, hv0⟩
    have HV0 := hid hv0.v.up
    have HB2 := hid (HB1.out.trans (hv0.1.mono HB1.out.size))
    clear hv0 HR1 HB1
    go_wp2_with fail
    (with_reducible refine (toIv_any _ _ _ F0 T0 hl _ (HA.out.below HB2.out)).mono ?_)
    rintro e wc ⟨bx, rfl, hbx, hrx, hfx, hB3⟩
    have HRX := hid hrx
    have HFX := hid hfx
    have HBX := hid (And.intro hbx hrx.1)
    have HC3 := hid hB3
    have HB3 := hid (HB2.out.trans (hB3.mono HB2.out.size))
    clear hrx hfx hbx hB3
    go_wp2_with fail
    (with_reducible refine (HIm.out _ _ HRX.out).mono ?_)
    rintro e wd ⟨g0, rfl, hg0⟩
    have HG := hid hg0.v
    have HR4 := hid (HRX.out.below hg0.1)
    have HF4 := hid (HFX.out.below hg0.1 HRX.out.1)
    have HC4 := hid (HC3.out.trans (hg0.1.mono HC3.out.size))
    have HB4 := hid (HB3.out.trans (hg0.1.mono HB3.out.size))
    clear hg0 HC3 HB3 HRX HFX
    go_wp2_with fail
    (with_reducible refine (eqIntS_same _ _ n f _ (by omega) HG.out.sl (HV0.out.below HC4.out).sl).mono ?_)
    rintro e _ ⟨rfl, m, rfl⟩
    go_wp2_with fail
    (with_reducible refine (toIv_any _ _ _ F0 T0 hl _ ((HA.out.below HB4.out).drewN m)).mono ?_)
    rintro e we ⟨b5, rfl, hb5, hr5, hf5, hB5⟩
    have hB5' : Below wd.heap.size wd we := (below_drewN wd.heap.size wd m).trans hB5
    have HG5 := hid (HG.out.below hB5')
    have HR5 := hid (HR4.out.below hB5')
    have HF5 := hid (HF4.out.below hB5' HR4.out.1)
    have HC5 := hid (HC4.out.trans (hB5'.mono HC4.out.size))
    have HB5 := hid (HB4.out.trans (hB5'.mono HB4.out.size))
    have HN5 := hid hr5
    clear hB5 hB5' hb5 hr5 hf5 HG HR4 HF4 HC4 HB4
    go_wp2_with fail
    (with_reducible refine (eqIv_same _ _ len0 F0 T0 _ (by omega) (HR5.out.si (Nat.le_refl _)) (HN5.out.si (Nat.le_refl _))).mono ?_)
    rintro e wf ⟨rfl, hB6⟩
    have HG6 := hid (HG5.out.below hB6)
    have HR6 := hid (HR5.out.below hB6)
    have HF6 := hid (HF5.out.below hB6 HR5.out.1)
    have HC6 := hid (HC5.out.trans (hB6.mono HC5.out.size))
    have HB6 := hid (HB5.out.trans (hB6.mono HB5.out.size))
    clear hB6 HG5 HR5 HF5 HC5 HB5 HN5
    go_wp2_with fail
    (with_reducible refine (show Calls _ _ #[_, .int .i64 1] _ _ from markX_any 1 (by omega) HR6.out HF6.out).mono ?_)
    rintro e wg ⟨rfl, hW⟩
    have HG7 := hid (HG6.out.wr hW HBX.out.2)
    have HC7 := hid (HC6.out.trans (hW.below HBX.out.1 HC6.out.size))
    have HB7 := hid (HB6.out.trans (hW.below (Nat.le_trans HB2.out.size HBX.out.1) HB6.out.size))
    clear hW HG6 HR6 HF6 HC6 HB6
    have hq1 := HQ1.out
    go_wp2_with fail
    clear hq1
    (with_reducible refine (eqIntS_same _ _ n f _ (by omega) HG7.out.sl (HV0.out.below HC7.out).sl).mono ?_)
    rintro e _ ⟨rfl, m2, rfl⟩
    go_wp2_with fail
    (with_reducible refine (show Calls _ _ #[_, .int .i64 1] _ _ from markV_any (B := wb.heap.size) (n := n) (f := f) 1 (by omega) (szD HC7.out.size m2) (((HG7.out).lower (Nat.le_trans HBX.out.1 (Nat.le_of_lt HBX.out.2))).drewN m2)).mono ?_)
    rintro e wh ⟨rfl, hM, hW⟩
    have hW' : Below wb.heap.size wg wh := (below_drewN wb.heap.size wg m2).trans hW
    have HM := hid hM
    have HC8 := hid (HC7.out.trans hW')
    have HB8 := hid (HB7.out.trans (hW'.mono HB2.out.size))
    clear hW hW' hM HG7 HC7 HB7
    go_wp2_with fail
    (with_reducible refine (show Calls _ _ #[_, .int .i64 1] _ _ from heldV_any (n := n) 1 (by omega) HM.out).mono ?_)
    rintro e _ ⟨rfl, rfl⟩
    have hq2 := HQ2.out
    have hq3 := HQ3.out
    go_wp2_with fail
    clear hq2 hq3
    (with_reducible refine (toIv_any _ _ _ F0 T0 hl _ (HA.out.below HB8.out)).mono ?_)
    rintro e wi ⟨b9, rfl, hb9, hr9, hf9, hB9⟩
    have HR9 := hid hr9
    have HM9 := hid (HM.out.below hB9)
    have HC9 := hid (HC8.out.trans (hB9.mono HC8.out.size))
    have HB9 := hid (HB8.out.trans (hB9.mono HB8.out.size))
    clear hB9 hb9 hr9 hf9 HM HC8 HB8
    go_wp2_with fail
    (with_reducible refine (HIm.out _ _ HR9.out).mono ?_)
    rintro e wj ⟨h0, rfl, hh0⟩
    have HH := hid hh0.v
    have HM10 := hid (HM9.out.below hh0.1)
    have HC10 := hid (HC9.out.trans (hh0.1.mono HC9.out.size))
    have HB10 := hid (HB9.out.trans (hh0.1.mono HB9.out.size))
    clear hh0 HR9 HM9 HC9 HB9
    go_wp2_with fail
    (with_reducible refine (eqIntS_same _ _ n f _ (by omega) HH.out.sl (HV0.out.below HC10.out).sl).mono ?_)
    rintro e _ ⟨rfl, m3, rfl⟩
    go_wp2_with fail
    (with_reducible refine (show Calls _ _ #[_, .int .i64 1] _ _ from heldV_any (n := n) 1 (by omega) (HM10.out.drewN m3)).mono ?_)
    rintro e _ ⟨rfl, rfl⟩
    have hq2 := HQ2.out
    have hq3 := HQ3.out
    go_wp2
    go_ret
    exact ⟨rfl, HB10.out.trans (below_drewN _ _ _)⟩
  · have HA := hid w0
    clear w0
    have HS := AllLt.start w; go_enter Try.func4, Try.ntmps4
    go_wp2_with fail
    (with_reducible refine (szIv_off _ _ _ hl HA.out.len _).mono ?_)
    rintro e _ ⟨rfl, rfl⟩
    go_wp2
    go_ret
    exact ⟨rfl, Below.refl _ _⟩
end Go.Proofs.Ytnogdjmciekieaa.C
