/- The ranks of points: the program, the model, the exact law. -/
import Derived.Test.YtmdgkhebefnfeabSop
namespace Go.Proofs.Ytmdgkhebefnfeab.C
open Go.RowKit
set_option linter.unusedVariables false
set_option linter.unusedSimpArgs false
theorem srt_hit (f : Nat → Int) {n i : Nat} (h : i < n) : f i ∈ srt (fstZ f n) := srt_mem.2 (by simp only [fstZ, List.mem_map, List.mem_range]; exact ⟨i, h, rfl⟩)
theorem lw_count (x : Int) (l : List Int) : l.countP (· < x) = lw x l := by
  unfold lw
  rw [List.countP_eq_length_filter]
theorem asc_le {l : List Int} (h : Asc l) : l.Pairwise (· ≤ ·) := h.imp (fun h => Int.le_of_lt h)
/-- the ranks of the first numbers -/
def rkF (f : Nat → Int) (l : List Int) (i : Nat) : Int := ((lw (f i) l : Nat) : Int)
theorem ivL_snoc (l : List Int) (x : Int) : ivL (l ++ [x]) = ivL l ++ [.int .i64 x] := by simp [ivL]
theorem own_blr {w w' : World} {base e size n : Nat} {v : Value} {xs : List Value} (h : w.ownsRow base e size v n xs) (hb : Below w.heap.size w w') : w'.ownsRow base e size v n xs :=
  h.kept (row := none) ⟨hb.os, hb.tape, hb.output, hb.size, fun k hk _ => hb.block k hk⟩ (by cases hv : v.ownBlock <;> simp)
theorem own_new {w w' : World} {v : Value} {n : Nat} {F : Nat → Int} (h : w'.ownsRow w.heap.size 3 1 v n (ivL (fstZ F n))) (hb : Below w.heap.size w w') : NewSl w n F v w' := by
  have h0 := h
  refine ⟨hb, ?_⟩
  rcases h.2 with ⟨rfl, hn⟩ | ⟨g, cap, cur, rfl, hB, hg, h1, h2, h3, h4⟩
  · exact .inl ⟨hn, _, _, rfl⟩
  · refine .inr ⟨g, cap, rfl, h1, hB, (Array.getElem?_eq_some_iff.1 hg).1, fun i hi => ?_, fun i hi => h.frozenAt i⟩
    rw [h.cellAt i (by omega)]
    simp [ivL, fstZ, hi]
theorem rnkInfo : (Try.prog.info? 3).map (fun i => (i.zero, i.size, i.bytes)) = some (some (.int .i64 0), 1, 8) := by kernel_rfl
set_option maxHeartbeats 4000000 in
set_option maxRecDepth 100000 in
theorem iRanksOfPoints_any (n : Nat) (f : Nat → Int) (hn : n ≤ 1048576) (v : Value) (w : World) (hv : SlR w v n f) :
    Calls Try.prog 26 #[v] w (NewS w n (rkF f (srt (fstZ f n)))) := by
  obtain ⟨i0, hi0, hz0, hz1, hz2⟩ := info_parts rnkInfo
  have HSO := hid (iSortPoints_any n f hn v w hv)
  obtain ⟨b, o, cap, rfl, hcap, hb, hc⟩ := hv
  have HC := hid hc
  have HAS := hid (srt_asc (fstZ f n))
  have HHI := hid (fun i (h : i < n) => srt_hit f h)
  have HLE := hid (show (srt (fstZ f n)).length ≤ 1048576 by have := srt_len (fstZ f n); rw [fstZ_len] at this; omega)
  clear hc
  generalize srt (fstZ f n) = l at *
  have HS := AllLt.start w; go_enter Try.func26, Try.ntmps26
  go_wp2_with fail
  (with_reducible refine HSO.out.mono ?_)
  rintro e w1 ⟨v1, rfl, hb1, hv1⟩
  have HV1 := hid hv1
  have HB1 := hid hb1
  clear hb1 hv1
  go_wp2_with (at_make; refine wpList_make_own _ rfl _ _ 29 rfl w.heap.size 3 i0 (.int .i64 0) 1 Try.underlying29 hi0 hz0 hz1 .i64 .i64 _ n rfl rfl rfl (by rw [hz2]; omega) (by unfold maxLen; omega) HB1.out.size ?_; intro w2 hown hgrow)
  have HB2 : Hid (Below w1.heap.size w1 w2) := hid ((Below.refl _ _).grown hgrow (Nat.le_refl _) (fun k hk => by cases hk))
  have HO0 : Hid (w2.ownsRow w.heap.size 3 1 (.slice (some ⟨w1.heap.size, 0, none⟩) 0 n) 0 (ivL (fstZ (rkF f l) 0))) := hid hown
  have HN0 : Hid (∀ k, (Value.slice (some ⟨w1.heap.size, 0, none⟩) 0 n).ownBlock = some k → w1.heap.size ≤ k) := hid (fun k hk => by simp [Value.ownBlock] at hk; omega)
  have HX0 := hid (Below.refl w1.heap.size w2)
  have hw12 : w1.heap.size ≤ w2.heap.size := HB2.out.size
  clear hown hgrow
  go_loopw [16, 4] (fun a v wr => ∃ i : Nat, i ≤ n ∧ a = .int .i64 (i : Int) ∧ ∃ u, u = v ∧ Hid (wr.ownsRow w.heap.size 3 1 v i (ivL (fstZ (rkF f l) i))) ∧ Hid (∀ k, v.ownBlock = some k → w1.heap.size ≤ k) ∧ Hid (Below w1.heap.size w2 wr)) (fun a _ _ => n - (intOf a).toNat)
  case atStart => exact ⟨0, by omega, rfl, _, rfl, HO0, HN0, HX0⟩
  case round =>
    obtain ⟨i, hi, rfl, v, rfl, HO, HN, HX⟩ := hrel
    clear HS
    obtain ⟨wi, rfl⟩ : ∃ wi : World, wi = wr := ⟨_, rfl⟩
    have HT := hid (HB2.out.trans HX.out)
    have HW := hid (show Below w.heap.size w wi from HB1.out.trans (HT.out.mono HB1.out.size))
    by_cases hin : i < n
    · have hdi : decide ((i : Int) < (n : Int)) = true := by simp; omega
      have hdj : decide (i < n) = true := by simp; omega
      have hci : wi.cell? ⟨b, o + i, none⟩ = some (.int .i64 (f i)) := (HW.out.cell (p := ⟨b, o + i, none⟩) hb).trans (HC.out i hin)
      have HMEM := hid (HHI.out i hin)
      have hlp : 0 < l.length := List.length_pos_of_mem HMEM.out
      obtain ⟨gs, cs, e1, hgs, hcs⟩ : ∃ gs cs, v1 = .slice (some ⟨gs, 0, none⟩) l.length cs ∧ gs < w1.heap.size ∧ ∀ j, j < l.length → w1.cell? ⟨gs, 0 + j, none⟩ = some (.int .i64 (l.getD j 0)) := by
        rcases HV1.out with ⟨h0, _⟩ | ⟨gs, cs, q1, q2, q3, q4, q5, q6⟩
        · omega
        · exact ⟨gs, cs, q1, q4, fun j hj => by rw [Nat.zero_add]; exact q5 j hj⟩
      subst e1
      have HCS : Hid (∀ j, j < l.length → wi.cell? ⟨gs, 0 + j, none⟩ = some (.int .i64 (l.getD j 0))) := hid (fun j hj => (HT.out.cell (p := ⟨gs, 0 + j, none⟩) hgs).trans (hcs j hj))
      have HBS := hid (Try.slices_BinarySearch_int gs 0 l.length cs l (f i) wi (Nat.le_refl _) (by have := HLE.out; omega) HCS.out (by rw [List.take_of_length_le (Nat.le_refl _)]; exact asc_le HAS.out))
      rw [List.take_of_length_le (Nat.le_refl _), lw_count] at HBS
      have HR := hid (show rkF f l i = ((lw (f i) l : Nat) : Int) from rfl)
      have HLW := hid (lw_le (f i) l)
      clear hcs
      generalize lw (f i) l = r at *
      generalize f i = x at *
      have hll := HLE.out
      go_wp2_with fail
      (with_reducible refine HBS.out.mono ?_)
      rintro e _ ⟨rfl, q, rfl⟩
      have HO2 : Hid ((wi.drewN q).ownsRow w.heap.size 3 1 v i (ivL (fstZ (rkF f l) i))) := hid HO.out
      have HX2 := hid (HX.out.trans (below_drewN w1.heap.size wi q))
      have HSZ := hid (show w1.heap.size ≤ (wi.drewN q).heap.size from HT.out.size)
      clear HBS HCS hci
      generalize wi.drewN q = wj at *
      go_wp2_with (at_builtin; refine wpList_append_lies _ rfl _ _ 29 rfl w.heap.size 3 i0 _ 1 8 Try.underlying29 hi0 hz0 hz1 hz2 rfl (by decide) _ _ _ rfl (own_blr HO2.out (by (repeat' (first | (with_reducible exact Below.refl _ _) | (with_reducible refine Below.setCell ?_ ?_ _) | (with_reducible refine below_drewN' ?_ _) | (with_reducible refine below_drew' ?_) | (with_reducible refine Below.alloc ?_ ?_ _) | (with_reducible assumption) | go_size)))) ⟨wj.heap.size, 0, none⟩ 1 1 [.int .i64 ((r : Nat) : Int)] rfl rfl (World.news_of_block (cs := #[.int .i64 ((r : Nat) : Int)]) (t := 3) (fr := (0, 0)) (heap_alloc_new _ _)) (by intro u hu; simp at hu; subst hu; rfl) (by omega) (by unfold maxLen; omega) (by omega) (by have := HSZ.out; have := HB1.out.size; simp; omega) _ rfl ?_)
      intro g3 cap3 w3 hown hgrow hat hlt
      have HX3 := hid ((HX2.out.alloc HSZ.out (.cells #[.int .i64 ((r : Nat) : Int)] 3)).grown hgrow (by have := HSZ.out; simp; omega) (fun j hj => HN.out j hj))
      have HO3 := hid (show w3.ownsRow w.heap.size 3 1 (.slice (some ⟨g3, 0, none⟩) (i + 1) cap3) (i + 1) (ivL (fstZ (rkF f l) (i + 1))) by rw [fstZ_succ, ivL_snoc, HR.out]; exact hown)
      have HN3 := hid (show ∀ k, (Value.slice (some ⟨g3, 0, none⟩) (i + 1) cap3).ownBlock = some k → w1.heap.size ≤ k from fun k hk => by
        have hk' : g3 = k := by simpa [Value.ownBlock] using hk
        subst hk'
        rcases hat with h | h
        · exact HN.out _ h
        · rw [h]; have := HSZ.out; simp; omega)
      clear hown hgrow hat hlt
      go_wp2_with fail
      go_roundw
      case rel => exact ⟨i + 1, by omega, by go_num, _, rfl, HO3, HN3, HX3⟩
      case measure => simp [intOf]; omega
    · obtain rfl : i = n := by omega
      have hdi : decide ((i : Int) < (i : Int)) = false := by simp
      have HF := hid (own_new HO.out HW.out)
      go_wp2_with fail
      go_ret
      exact ⟨_, rfl, HF.out⟩
theorem rnsInfo : (Try.prog.info? 3).map (fun i => (i.zero, i.size, i.bytes)) = some (some (.int .i64 0), 1, 8) := by kernel_rfl
theorem lw_first {l : List Int} {x : Int} (h : Asc l) {j : Nat} (hj : j < lw x l) : l.getD j 0 ≠ x := fun e => by
  have := (lw_at (x := x) h (Nat.lt_of_lt_of_le hj (lw_le x l))).1 hj
  omega
set_option maxHeartbeats 4000000 in
set_option maxRecDepth 100000 in
theorem l1Ranks_any (n : Nat) (f : Nat → Int) (hn : n ≤ 1048576) (v : Value) (w : World) (hv : SlB w v n f) :
    Calls Try.prog 44 #[v] w (NewS w n (rkF f (srt (fstZ f n)))) := by
  obtain ⟨i0, hi0, hz0, hz1, hz2⟩ := info_parts rnsInfo
  obtain ⟨av, cv, rfl, _, _⟩ := hv.lens
  have HV := hid hv
  have HB0 := hid ((Below.refl w.heap.size w).alloc (Nat.le_refl _) (.cells #[] 3))
  have HSO := hid (l1Sort_any n f hn _ _ (hv.below HB0.out))
  have HO0 := hid (show (w.alloc (.cells #[] 3)).ownsRow w.heap.size 3 1 (.slice (some ⟨w.heap.size, 0, none⟩) 0 0) 0 (ivL (fstZ (rkF f (srt (fstZ f n))) 0)) from World.ownsRow_made (base := w.heap.size) (e := 3) (size := 1) w #[] 0 (Nat.le_refl _) (by decide) rfl)
  have HAS := hid (srt_asc (fstZ f n))
  have HHI := hid (fun i (h : i < n) => srt_hit f h)
  have HLE := hid (show (srt (fstZ f n)).length ≤ 1048576 by have := srt_len (fstZ f n); rw [fstZ_len] at this; omega)
  clear hv
  generalize srt (fstZ f n) = l at *
  have HS := AllLt.start w; go_enter Try.func44, Try.ntmps44
  go_wp2_with fail
  (with_reducible refine HSO.out.mono ?_)
  rintro e w1 ⟨⟨gs, cs, rfl, hso⟩, hb1⟩
  have HS1 := hid (show Oq (w.heap.size + 1) w1 l gs cs from by have := hso; rwa [World.size_alloc] at this)
  have HO1 := hid (own_blr HO0.out hb1)
  have HB1 := hid (HB0.out.trans (hb1.mono HB0.out.size))
  have HN1 : Hid (∀ k, (Value.slice (some ⟨w.heap.size, 0, none⟩) 0 0).ownBlock = some k → k ≠ gs) := hid (fun k hk => by have := HS1.out.ge; simp [Value.ownBlock] at hk; omega)
  clear hso hb1 HO0
  go_wp2_with fail
  go_loopw [3, 5] (fun v a wr => ∃ i : Nat, i ≤ n ∧ a = .int .i64 (i : Int) ∧ ∃ u, u = v ∧ Hid (wr.ownsRow w.heap.size 3 1 v i (ivL (fstZ (rkF f l) i))) ∧ Hid (∀ k, v.ownBlock = some k → k ≠ gs) ∧ Hid (Oq (w.heap.size + 1) wr l gs cs) ∧ Hid (Below w.heap.size w wr)) (fun _ a _ => n - (intOf a).toNat)
  case atStart => exact ⟨0, by omega, rfl, _, rfl, HO1, HN1, HS1, HB1⟩
  case round =>
    obtain ⟨i, hi, rfl, v, rfl, HO, HN, HSr, HB⟩ := hrel
    clear HS
    obtain ⟨wi, rfl⟩ : ∃ wi : World, wi = wr := ⟨_, rfl⟩
    by_cases hin : i < n
    · have hdi : decide ((i : Int) < (n : Int)) = true := by simp; omega
      have hdj : decide (i < n) = true := by simp; omega
      obtain ⟨av', cv', e1, _, hcl⟩ := (HV.out.below HB.out).lens
      cases e1
      obtain ⟨bl, ol, rfl, hbl, hci⟩ := hcl i hin
      have HMEM := hid ((lw_mem (x := f i) HAS.out).1 (HHI.out i hin))
      have HFST := hid (fun (j : Nat) (hj : j < lw (f i) l) => lw_first HAS.out hj)
      have HR := hid (show rkF f l i = ((lw (f i) l : Nat) : Int) from rfl)
      have HLW := hid (lw_le (f i) l)
      clear hcl
      generalize lw (f i) l = r at *
      generalize f i = x at *
      have hll := HLE.out
      go_wp2_with fail
      go_loopw [6] (fun a wr => ∃ p : Nat, p ≤ r ∧ a = .int .i64 (p : Int) ∧ ∃ q, wr = wi.drewN q) (fun a _ => r - (intOf a).toNat)
      case atStart => exact ⟨0, by omega, rfl, 0, rfl⟩
      case round =>
        obtain ⟨p, hp, rfl, q, rfl⟩ := hrel
        (try clear HS)
        have HOj : Hid ((wi.drewN q).ownsRow w.heap.size 3 1 v i (ivL (fstZ (rkF f l) i))) := hid HO.out
        have HSj : Hid (Oq (w.heap.size + 1) (wi.drewN q) l gs cs) := hid (HSr.out.drewN q)
        have HBj := hid (HB.out.trans (below_drewN w.heap.size wi q))
        have hcj : (wi.drewN q).cell? ⟨bl, ol + i, none⟩ = some (.int .i64 x) := hci
        have HQ : Hid (∃ q', wi.drewN q = wi.drewN q') := hid ⟨q, rfl⟩
        have hpl : p < l.length := by have := HMEM.out.1; omega
        have hcg := HSj.out.at hpl
        have p0 : (0 : Int) ≤ (p : Int) := by omega
        have p1 : (p : Int) < (l.length : Int) := by omega
        have p2 : decide (p < l.length) = true := by simp; omega
        have hwp : IntKind.i64.wrap (p : Int) = (p : Int) := IntWalk.i64_in _ (by omega)
        by_cases hpr : p = r
        · subst hpr
          have hy := HMEM.out.2
          have HSZ := hid (show w.heap.size ≤ (wi.drewN q).heap.size from HBj.out.size)
          have HGL := hid HSj.out.lt
          rw [hy] at hcg
          have hq : (x != x) = false := by simp
          clear hy
          generalize wi.drewN q = wj at *
          go_wp2_with fail
          go_quiet (fail)
          have HO4 : Hid ((wj.drewN nq).ownsRow w.heap.size 3 1 v i (ivL (fstZ (rkF f l) i))) := hid HOj.out
          have HS4 := hid (HSj.out.drewN nq)
          have HB4 := hid (HBj.out.trans (below_drewN w.heap.size wj nq))
          have HSZ4 := hid (show w.heap.size ≤ (wj.drewN nq).heap.size from HSZ.out)
          clear hcg hcj
          generalize wj.drewN nq = wk at *
          go_wp2_with (at_builtin; refine wpList_append_lies _ rfl _ _ 29 rfl w.heap.size 3 i0 _ 1 8 Try.underlying29 hi0 hz0 hz1 hz2 rfl (by decide) _ _ _ rfl (own_blr HO4.out (by (repeat' (first | (with_reducible exact Below.refl _ _) | (with_reducible refine Below.setCell ?_ ?_ _) | (with_reducible refine below_drewN' ?_ _) | (with_reducible refine below_drew' ?_) | (with_reducible refine Below.alloc ?_ ?_ _) | (with_reducible assumption) | go_size)))) ⟨wk.heap.size, 0, none⟩ 1 1 [.int .i64 ((p : Nat) : Int)] rfl rfl (World.news_of_block (cs := #[.int .i64 ((p : Nat) : Int)]) (t := 3) (fr := (0, 0)) (heap_alloc_new _ _)) (by intro u hu; simp at hu; subst hu; rfl) (by omega) (by unfold maxLen; omega) (by omega) (by have := HSZ4.out; simp; omega) _ rfl ?_)
          intro g3 cap3 w3 hown hgrow hat hlt
          have hbv : ∀ j, v.ownBlock = some j → w.heap.size ≤ j := fun j hj => (HO4.out.lt j hj).1
          have HB3 := hid ((HB4.out.alloc HSZ4.out (.cells #[.int .i64 ((p : Nat) : Int)] 3)).grown hgrow (by have := HSZ4.out; simp; omega) hbv)
          have HO3 := hid (show w3.ownsRow w.heap.size 3 1 (.slice (some ⟨g3, 0, none⟩) (i + 1) cap3) (i + 1) (ivL (fstZ (rkF f l) (i + 1))) by rw [fstZ_succ, ivL_snoc, HR.out]; exact hown)
          have HSA := hid (HS4.out.below ((Below.refl wk.heap.size wk).alloc (Nat.le_refl _) (.cells #[.int .i64 ((p : Nat) : Int)] 3)))
          have HS3 := hid (show Oq (w.heap.size + 1) w3 l gs cs from ⟨HSA.out.own.kept hgrow (.inr (by simp only [Value.ownBlock]; exact fun e => HN.out gs e.symm rfl)), HSA.out.cap, Nat.lt_of_lt_of_le HSA.out.lt hgrow.size, HSA.out.ge⟩)
          have HN3 := hid (show ∀ k, (Value.slice (some ⟨g3, 0, none⟩) (i + 1) cap3).ownBlock = some k → k ≠ gs from fun k hk => by
            have hk' : g3 = k := by simpa [Value.ownBlock] using hk
            subst hk'
            rcases hat with h | h
            · exact HN.out _ h
            · rw [h]; have h4 := HS4.out.lt; simp; omega)
          clear hown hgrow hat hlt hbv
          go_wp2_with fail
          go_roundw
          case rel => exact ⟨i + 1, by omega, by go_num, _, rfl, HO3, HN3, HS3, HB3⟩
          case measure => simp [intOf]; omega
        · have hy := HFST.out p (by omega)
          generalize l.getD p 0 = y at *
          have hq : (y != x) = true := by rw [bne_iff_ne]; exact hy
          have HPR := hid hpr
          obtain ⟨wj, hwj⟩ : ∃ wj, wi.drewN q = wj := ⟨_, rfl⟩
          have HQE := hid hwj
          clear hy hpr
          rw [hwj] at HOj HSj HBj hcj hcg ⊢
          clear hwj HQ
          go_wp2_with fail
          go_quiet (fail)
          have HQF := hid (show ∃ q', wj.drewN nq = wi.drewN q' from ⟨q + nq, by rw [← HQE.out]; simp [World.drewN, Nat.add_assoc]⟩)
          go_wp2
          go_roundw
          case rel => exact ⟨p + 1, by have := HPR.out; omega, by go_num, HQF.out⟩
          case measure => simp [intOf]; have := HPR.out; omega
    · obtain rfl : i = n := by omega
      have hdi : decide ((i : Int) < (i : Int)) = false := by simp
      have HF := hid (own_new HO.out HB.out)
      go_wp2_with fail
      go_ret
      exact ⟨_, rfl, HF.out⟩
theorem sRanksOfPoints_any (n : Nat) (f : Nat → Int) (hn : n ≤ 1048576) (v : Value) (w : World) (hv : SlB w v n f) :
    Calls Try.prog 25 #[v] w (NewS w n (rkF f (srt (fstZ f n)))) := by
  have HL := hid (l1Ranks_any n f hn v w hv)
  clear hv
  have HS := AllLt.start w; go_enter Try.func25, Try.ntmps25
  go_wp2_with fail
  (with_reducible refine HL.out.mono ?_)
  rintro e w1 ⟨v1, rfl, h⟩
  have HN := hid h
  clear h
  go_wp2_with fail
  go_ret
  exact ⟨_, rfl, HN.out⟩
set_option maxHeartbeats 2000000 in
theorem walk_FnExactRanksOfPoints (a0 : Option Addr) (len0 cap0 : Nat) (z0 : List Int) (w : World) (w0 : IsRow .i64 w a0 len0 cap0 z0) :
    Calls Try.prog 7 #[.slice a0 len0 cap0] w fun e w' => e = .returned (.bool true) ∧ Below w.heap.size w w' := by
  by_cases hl : len0 ≤ 1048576
  · have hd : decide ((1048576 : Int) < (len0 : Int)) = false := by simp; omega
    obtain ⟨f, hf⟩ : ∃ f : Nat → Int, f = fun i => z0.getD i 0 := ⟨_, rfl⟩
    have HA : Hid (∀ w' : World, Below w.heap.size w w' → Calls Try.prog 20 #[.slice a0 len0 cap0] w' fun e w2 => e = .returned (.slice (some ⟨w'.heap.size, 0, none⟩) len0 len0) ∧ Below w'.heap.size w' w2 ∧ RowAt w2 w'.heap.size len0 len0 f ∧ ∀ i, i < len0 → w2.frozen? ⟨w'.heap.size, i, none⟩ = false) := hid fun w' hb => by
      obtain ⟨h1, h2⟩ := (w0.below hb).at
      rw [hf]
      exact (toIntR_any a0 cap0 len0 _ hl w' h1 h2).mono (by rintro e w2 ⟨rfl, q1, q2, q3, q4⟩; exact ⟨rfl, q1, ⟨Nat.le_refl _, q2, q3⟩, q4⟩)
    clear w0 hf
    have HSp := hid (fun (w : World) (v : Value) (h : SlB w v len0 f) => sRanksOfPoints_any len0 f hl v w h)
    have HIm := hid (fun (w : World) (v : Value) (h : SlR w v len0 f) => iRanksOfPoints_any len0 f hl v w h)
    generalize (rkF f (srt (fstZ f len0))) = FF at *
    have HQ1 := hid (show decide (((1 + len0 : Nat) : Int) < 0) = false by simp; omega)
    have HQ2 := hid (show decide (((1 + len0 : Nat) : Int) < 0) = false by simp; omega)
    have HQ3 := hid (show (((1 + len0 : Nat) : Int) != ((1 + len0 : Nat) : Int)) = false by simp)
    have HS := AllLt.start w; go_enter Try.func7, Try.ntmps7
    go_wp2_with fail
    (with_reducible refine (HA.out _ (Below.refl _ _)).mono ?_)
    rintro e wa ⟨rfl, hb, hr, _⟩
    have HR1 := hid hr.slR
    have HB1 := hid hb
    clear hb hr
    go_wp2_with fail
    (with_reducible refine (HSp.out _ _ HR1.out.slB).mono ?_)
    rintro e wb ⟨v0, rfl, hv0⟩
    have HV0 := hid hv0.v.up
    have HB2 := hid (HB1.out.trans (hv0.1.mono HB1.out.size))
    clear hv0 HR1 HB1
    go_wp2_with fail
    (with_reducible refine (HA.out _ HB2.out).mono ?_)
    rintro e wc ⟨rfl, hb, hr, hf⟩
    have HRX := hid hr
    have HFX := hid hf
    have HC3 := hid hb
    have HB3 := hid (HB2.out.trans (hb.mono HB2.out.size))
    have HLX := hid hr.2.1
    clear hb hr hf
    go_wp2_with fail
    (with_reducible refine (HIm.out _ _ HRX.out.slR).mono ?_)
    rintro e wd ⟨g0, rfl, hg0⟩
    have HG := hid hg0.v
    have HR4 := hid (HRX.out.below hg0.1)
    have HF4 := hid (fun i (hi : i < len0) => (hg0.1.frozen (p := ⟨wb.heap.size, i, none⟩) HLX.out).trans (HFX.out i hi))
    have HC4 := hid (HC3.out.trans (hg0.1.mono HC3.out.size))
    have HB4 := hid (HB3.out.trans (hg0.1.mono HB3.out.size))
    clear hg0 HB3 HRX HFX
    go_wp2_with fail
    (with_reducible refine (eqIntS_same _ _ len0 FF _ (by omega) HG.out.sl (HV0.out.below HC4.out).sl).mono ?_)
    rintro e _ ⟨rfl, q1, rfl⟩
    have HBd := hid (below_drewN wd.heap.size wd q1)
    generalize wd.drewN q1 = wd2 at *
    go_wp2_with fail
    (with_reducible refine (HA.out _ (HB4.out.trans (HBd.out.mono HB4.out.size))).mono ?_)
    rintro e we ⟨rfl, hb, hr, _⟩
    have hB5' : Below wd.heap.size wd we := HBd.out.trans (hb.mono HBd.out.size)
    have HG5 := hid (HG.out.below hB5')
    have HR5 := hid (HR4.out.below hB5')
    have HF5 := hid (fun i (hi : i < len0) => (hB5'.frozen (p := ⟨wb.heap.size, i, none⟩) HR4.out.2.1).trans (HF4.out i hi))
    have HC5 := hid (HC4.out.trans (hB5'.mono HC4.out.size))
    have HB5 := hid (HB4.out.trans (hB5'.mono HB4.out.size))
    have HN5 := hid hr
    clear hb hB5' hr HG HR4 HF4 HC4 HB4 HBd
    go_wp2_with fail
    (with_reducible refine (eqIntS_same _ _ len0 f _ (by omega) HR5.out.sl HN5.out.sl).mono ?_)
    rintro e _ ⟨rfl, q2, rfl⟩
    have hB6 : Below we.heap.size we (we.drewN q2) := below_drewN _ _ _
    generalize we.drewN q2 = wf at *
    have HG6 := hid (HG5.out.below hB6)
    have HR6 := hid (HR5.out.below hB6)
    have HF6 := hid (fun i (hi : i < len0) => (hB6.frozen (p := ⟨wb.heap.size, i, none⟩) HR5.out.2.1).trans (HF5.out i hi))
    have HC6 := hid (HC5.out.trans (hB6.mono HC5.out.size))
    have HB6 := hid (HB5.out.trans (hB6.mono HB5.out.size))
    clear hB6 HG5 HR5 HF5 HC5 HB5 HN5
    go_wp2_with fail
    have HCS := hid (show ∀ i, i < len0 → ∃ v, wf.cell? ⟨wb.heap.size, i, none⟩ = some v from fun i hi => ⟨_, HR6.out.2.2 i hi⟩)
    (with_reducible refine (show Calls _ _ #[_, .int .i64 1] _ _ from markIntS_row wb.heap.size len0 len0 1 wf (by omega) (Nat.le_refl _) HCS.out HF6.out).mono ?_)
    rintro e wg ⟨rfl, hM0⟩
    have hW := hM0.wr
    have HG7 := hid (HG6.out.wr hW HLX.out)
    have HC7 := hid (HC6.out.trans (hW.below (Nat.le_refl _) HC6.out.size))
    have HB7 := hid (HB6.out.trans (hW.below HB2.out.size HB6.out.size))
    clear hW hM0 HG6 HR6 HF6 HC6 HB6
    have hq1 := HQ1.out
    go_wp2_with fail
    clear hq1
    (with_reducible refine (eqIntS_same _ _ len0 FF _ (by omega) HG7.out.sl (HV0.out.below HC7.out).sl).mono ?_)
    rintro e _ ⟨rfl, q3, rfl⟩
    have HBg := hid (below_drewN wg.heap.size wg q3)
    generalize wg.drewN q3 = wg2 at *
    go_wp2_with fail
    (with_reducible refine (show Calls _ _ #[_, .int .i64 1] _ _ from markV_any (B := wb.heap.size) (n := len0) (f := FF) 1 (by omega) (Nat.le_trans HC7.out.size HBg.out.size) (((HG7.out).below HBg.out).lower (Nat.le_of_lt HLX.out))).mono ?_)
    rintro e wh ⟨rfl, hM, hW⟩
    have hW' : Below wb.heap.size wg wh := (HBg.out.mono HC7.out.size).trans hW
    have HM := hid hM
    have HC8 := hid (HC7.out.trans hW')
    have HB8 := hid (HB7.out.trans (hW'.mono HB2.out.size))
    clear hW hW' hM HG7 HC7 HB7
    go_wp2_with fail
    (with_reducible refine (show Calls _ _ #[_, .int .i64 1] _ _ from heldV_any (n := len0) 1 (by omega) HM.out).mono ?_)
    rintro e _ ⟨rfl, rfl⟩
    have hq2 := HQ2.out
    have hq3 := HQ3.out
    go_wp2_with fail
    clear hq2 hq3
    (with_reducible refine (HA.out _ HB8.out).mono ?_)
    rintro e wi ⟨rfl, hb, hr, _⟩
    have HR9 := hid hr.slR
    have HM9 := hid (HM.out.below hb)
    have HC9 := hid (HC8.out.trans (hb.mono HC8.out.size))
    have HB9 := hid (HB8.out.trans (hb.mono HB8.out.size))
    clear hb hr HM HC8 HB8
    go_wp2_with fail
    (with_reducible refine (HIm.out _ _ HR9.out).mono ?_)
    rintro e wj ⟨h0, rfl, hh0⟩
    have HH := hid hh0.v
    have HM10 := hid (HM9.out.below hh0.1)
    have HC10 := hid (HC9.out.trans (hh0.1.mono HC9.out.size))
    have HB10 := hid (HB9.out.trans (hh0.1.mono HB9.out.size))
    clear hh0 HR9 HM9 HC9 HB9
    go_wp2_with fail
    (with_reducible refine (eqIntS_same _ _ len0 FF _ (by omega) HH.out.sl (HV0.out.below HC10.out).sl).mono ?_)
    rintro e _ ⟨rfl, q4, rfl⟩
    have HBk := hid (below_drewN wj.heap.size wj q4)
    generalize wj.drewN q4 = wk at *
    go_wp2_with fail
    (with_reducible refine (show Calls _ _ #[_, .int .i64 1] _ _ from heldV_any (n := len0) 1 (by omega) (HM10.out.below HBk.out)).mono ?_)
    rintro e _ ⟨rfl, rfl⟩
    have hq2 := HQ2.out
    have hq3 := HQ3.out
    go_wp2
    go_ret
    exact ⟨rfl, HB10.out.trans (HBk.out.mono HB10.out.size)⟩
  · have hd : decide ((1048576 : Int) < (len0 : Int)) = true := by simp; omega
    have HS := AllLt.start w; have hn2 := lt2; have hn3 := lt3; have hn4 := lt4; go_enter Try.func7, Try.ntmps7
    go_wp2
    go_ret
    exact ⟨rfl, Below.refl _ _⟩
end Go.Proofs.Ytmdgkhebefnfeab.C
