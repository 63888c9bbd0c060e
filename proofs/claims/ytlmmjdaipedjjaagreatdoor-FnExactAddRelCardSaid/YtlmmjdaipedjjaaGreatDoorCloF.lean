/- The program: a pair narrowed by all nodes. Pairs that lie beside each other. The program: what closing knows of the world between its statements. The program: closing a network. -/
import Derived.Test.YtlmmjdaipedjjaaGreatDoorCloC
import Derived.Test.YtlmmjdaipedjjaaGreatDoorNetM
import Derived.Deep.DeepCutAuto
import Derived.Test.YtlmmjdaipedjjaaGreatDoorMapP
import Derived.Test.YtlmmjdaipedjjaaGreatDoorFac
import Derived.ScopeJumps
import Derived.WalkMore
import Derived.Carry
namespace Go.Proofs.YtlmmjdaipedjjaaGreatDoor.C
section
open Go.RowKit
set_option linter.unusedVariables false
set_option linter.unusedSimpArgs false
/-- the cells of steps -/
def stpC (nt : List Nt) : List Value := nt.flatMap fun x => [.int .i64 (x.1 : Int), .int .i64 (x.2.1 : Int), .int .i64 (x.2.2.1 : Int), .int .i64 (x.2.2.2 : Int)]
theorem stpC_snoc (nt : List Nt) (x : Nt) : stpC (nt ++ [x]) = stpC nt ++ [.int .i64 (x.1 : Int), .int .i64 (x.2.1 : Int), .int .i64 (x.2.2.1 : Int), .int .i64 (x.2.2.2 : Int)] := by simp [stpC]
theorem stepInfo : (Tryz.prog.info? 122).map (fun i => (i.zero, i.size, i.bytes)) = some (some (.agg #[.int .i64 0, .int .i64 0, .int .i64 0, .int .i64 0]), 4, 32) := by kernel_rfl
theorem own_wr {g : Nat} {w w' : World} {b T sz n : Nat} {v : Value} {xs : List Value} (h : w.ownsRow b T sz v n xs) (hw : Wr g w w') (hg : g < b) : w'.ownsRow b T sz v n xs :=
  h.kept (row := some g) ⟨hw.os, hw.tape, hw.output, hw.size, fun k hk hne => hw.block k hk (fun e => hne (by rw [e]))⟩ (by
    cases hv : v.ownBlock with
    | none => exact .inl rfl
    | some k => exact .inr (fun e => by have := (h.lt k hv).1; cases e; omega))
theorem own_diff' {w : World} {b1 b2 T1 T2 s1 s2 m k g : Nat} {u v : Value} {xs ys : List Value} (h1 : w.ownsRow b1 T1 s1 u m xs) (h2 : w.ownsRow b2 T2 s2 v k ys) (hT : T1 ≠ T2) (hu : v.ownBlock = u.ownBlock) : u.ownBlock ≠ some g := by
  intro hg
  rcases h1.2 with ⟨rfl, _⟩ | ⟨g1, c1, cur1, rfl, _, hg1, _⟩
  · cases hg
  · rcases h2.2 with ⟨rfl, _⟩ | ⟨g2, c2, cur2, rfl, _, hg2, _⟩
    · cases hu
    · have e : g2 = g1 := by simpa [Value.ownBlock] using hu
      subst e
      rw [hg1] at hg2
      cases hg2
      exact hT rfl
theorem own_less {w : World} {b b' T sz n : Nat} {v : Value} {xs : List Value} (h : w.ownsRow b T sz v n xs) (hb : b' ≤ b) : w.ownsRow b' T sz v n xs := by
  refine ⟨h.1, h.2.imp id ?_⟩
  rintro ⟨g, cap, cur, hv, hB, r⟩
  exact ⟨g, cap, cur, hv, by omega, r⟩
theorem Wr.grown {g : Nat} {w w1 w2 : World} {row : Option Nat} (h : Wr g w w1) (hg : w1.grownBy w2 row) (hr : ∀ k, row = some k → w.heap.size ≤ k) : Wr g w w2 :=
  ⟨hg.os.trans h.os, hg.tape.trans h.tape, hg.output.trans h.output, Nat.le_trans h.size hg.size, fun k hk hne => (hg.block k (Nat.lt_of_lt_of_le hk h.size) (fun e => by have := hr k e.symm; omega)).trans (h.block k hk hne)⟩
theorem tb_ne {w : World} {g n : Nat} {M : Nat → Nat → Nat} (hT : TB w) (hN : NB w g n M) : 0 ≠ g := by
  intro e
  obtain ⟨t, fr, h⟩ := hT
  rw [e] at h
  have h2 := hN
  unfold NB at h2
  rw [h] at h2
  have h3 : TBc = netV n M := by
    injection h2 with h2
    injection h2
  have := congrArg Array.size h3
  rw [netV_size] at this
  exact absurd this (by decide)
theorem tb_wr {w w' : World} {g : Nat} (hT : TB w) (hw : Wr g w w') (hg : 0 ≠ g) : TB w' := by
  have hl := Tb.lt hT
  obtain ⟨t, fr, h⟩ := hT
  exact ⟨t, fr, (hw.block _ hl hg).trans h⟩
/-- What narrowing knows of the world. -/
structure NW (w wr : World) (g n i k : Nat) (s : ClS) (v : Value) : Prop where
  nb : NB wr g n s.1
  wrt : Wr g w wr
  p0 : wr.cell? ⟨w.heap.size, 0, none⟩ = some (.int .i64 (i : Int))
  p1 : wr.cell? ⟨w.heap.size, 1, none⟩ = some (.int .i64 (k : Int))
  own : wr.ownsRow (w.heap.size + 1) 122 4 v s.2.length (stpC s.2)
  siz : w.heap.size + 1 ≤ wr.heap.size
theorem NW.below {w wr wr' : World} {g n i k : Nat} {s : ClS} {v : Value} (h : NW w wr g n i k s v) (hb : Below wr.heap.size wr wr') : NW w wr' g n i k s v where
  nb := h.nb.below' hb
  wrt := h.wrt.trans (Wr.of_below hb)
  p0 := (hb.cell (p := ⟨w.heap.size, 0, none⟩) (cell_lt' h.p0)).trans h.p0
  p1 := (hb.cell (p := ⟨w.heap.size, 1, none⟩) (cell_lt' h.p1)).trans h.p1
  own := own_below' h.own hb
  siz := Nat.le_trans h.siz hb.size
set_option maxHeartbeats 4000000 in
set_option maxRecDepth 100000 in
theorem narrow_any (o g n : Nat) (R : Nat → Nat → Nat) (hR : OkR n R) (i k : Nat) (hik : i < k) (hk : k < n) (w : World) (hT : TB w) (hC : TC w o) (ho : o < w.heap.size) (hog : o ≠ g) (hN : NB w g n R) :
    Calls Tryz.prog 58 #[.pointer (some ⟨g, 0, none⟩), .pointer (some ⟨o, 0, none⟩), .agg #[.int .i64 i, .int .i64 k]] w fun e w' => (∃ v, e = .returned v ∧ w'.ownsRow w.heap.size 122 4 v (narF (R, []) i k n).2.length (stpC (narF (R, []) i k n).2)) ∧ NB w' g n (narF (R, []) i k n).1 ∧ Wr g w w' := by
  obtain ⟨j0, hj0, hz0, hz1, hz2⟩ := info_parts stepInfo
  have h6 := hR.le
  have i6 : i < 6 := by omega
  have k6 : k < 6 := by omega
  have hgl := hN.lt
  have hgT := tb_ne hT hN
  have HT := hid hT
  have HC := hid hC
  have HOK := hid hR
  have HMU := hid (mu_bd hR)
  have HBA := hid ((Below.refl w.heap.size w).alloc (Nat.le_refl _) (.cells #[.int .i64 (i : Int), .int .i64 (k : Int)] 104))
  have HW0 := hid (show NW w (w.alloc (.cells #[.int .i64 (i : Int), .int .i64 (k : Int)] 104)) g n i k (R, []) (.slice none 0 0) from
    ⟨hN.alloc _, Wr.of_below HBA.out, by simp [go_sem], by simp [go_sem], World.ownsRow_nil _ _ _ _, by rw [World.size_alloc]; omega⟩)
  have q0 := HW0.out.nb.cell0
  clear hT hC hR hN
  have HS := AllLt.start w; go_enter Tryz.func58, Tryz.ntmps58
  go_upto_region 1 with fail
  generalize w.alloc (.cells #[.int .i64 (i : Int), .int .i64 (k : Int)] 104) = w2 at *
  go_wp2_with fail
  clear q0
  go_loopw [7, 15] (fun v a wr => ∃ b : Nat, b ≤ n ∧ a = .int .i64 b ∧ Hid (NW w wr g n i k (narF (R, []) i k b) v)) (fun _ a _ => n - (intOf a).toNat)
  case atStart => exact ⟨0, by omega, rfl, HW0⟩
  case round =>
    obtain ⟨b, hb, rfl, HW⟩ := hrel
    clear HS HW0
    obtain ⟨wi, rfl⟩ : ∃ wi : World, wi = wr := ⟨_, rfl⟩
    by_cases hbn : b < n
    · have hdb : decide ((b : Int) < (n : Int)) = true := by simp; omega
      have HOKb := hid (narF_ok (s := (R, [])) HOK.out (show i < n by omega) hk (show i ≠ k by omega) b)
      have HMUb := hid (narF_mu (n := n) (R, []) hik hk b)
      have HSX : Hid (narF (R, []) i k (b + 1) = stp (narF (R, []) i k b) i k b) := hid rfl
      generalize hs2 : narF (R, []) i k (b + 1) = s2 at *
      have HS2 := hid hs2
      clear hs2
      generalize narF (R, []) i k b = s at *
      have HLT := hid HOKb.out.lt
      have hl5 : s.2.length ≤ 122865 := by have := HMUb.out; have := HMU.out; simp only [List.length_nil] at *; omega
      have hr0 := NB.run HW.out.nb
      have p0 := HW.out.p0
      have p1 := HW.out.p1
      have hgw := HW.out.nb.lt
      have hpw := cell_lt' p0
      have b6 : b < 6 := by omega
      have HS := AllLt.start wi
      go_upto_region 5 with fail
      go_cut [9] from 18 to 25 (fun s9 wx => ∃ x : Nat, s9 = .pointer (some ⟨x, 0, none⟩) ∧ wi.heap.size ≤ x ∧ x < wx.heap.size ∧ wx.cell? ⟨x, 0, none⟩ = some (.int .i64 (i : Int)) ∧ wx.cell? ⟨x, 1, none⟩ = some (.int .i64 ((s.1 i k : Nat) : Int)) ∧ wx.cell? ⟨x, 2, none⟩ = some (.int .i64 (k : Int)) ∧ wx.frozen? ⟨x, 1, none⟩ = false ∧ Below wi.heap.size wi wx)
      case first =>
        go_region_held3 (fun wx => ((do let b ← isAgg 53; Next.value <$> (if b = true then (do let k ← sizeOf 53; Value.agg <$> loadCellsFrom ⟨g, 0, none⟩ 0 k #[]) else Go.load ⟨g, 0, none⟩) : Sem Next)).run Tryz.prog wx = .ok (.value (.agg (netV n s.1))) wx ∧ wx.cell? ⟨w.heap.size, 0, none⟩ = some (.int .i64 (i : Int)) ∧ wx.cell? ⟨w.heap.size, 1, none⟩ = some (.int .i64 (k : Int))) (first | exact ⟨NB.run (show NB wi.drew _ _ _ from HW.out.nb), p0, p1⟩ | exact ⟨NB.run (HW.out.nb.below' (by go_grown)), (Below.cell (B := wi.heap.size) (w := wi) (p := ⟨w.heap.size, 0, none⟩) (by go_grown) hpw).trans p0, (Below.cell (B := wi.heap.size) (w := wi) (p := ⟨w.heap.size, 1, none⟩) (by go_grown) hpw).trans p1⟩)
          (first | (go_at_call 37; (with_reducible refine (edge_any n s.1 i k i6 k6 _).mono ?_); rintro e w' ⟨rfl, hb⟩; obtain ⟨HB, hz0, hz, hc, hf⟩ := bst (w0 := wi) (by go_grown) hb; clear hb; (try simp at hz); (first | ((refine HS.g5 (m := w'.heap.size) ?_ ?_); (focus omega); intro HS) | ((refine HS.g4 (m := w'.heap.size) ?_ ?_); (focus omega); intro HS) | ((refine HS.g3 (m := w'.heap.size) ?_ ?_); (focus omega); intro HS) | ((refine HS.g2 (m := w'.heap.size) ?_ ?_); (focus omega); intro HS) | ((refine HS.g1 (m := w'.heap.size) ?_ ?_); (focus omega); intro HS) | ((refine HS.g0 (m := w'.heap.size) ?_ ?_); (focus omega); intro HS)); have HU := HS; simp only [AllLt] at HU) | fail)
        all_goals
          go_wp2_with fail
          go_meet
          exact ⟨_, rfl, by first | exact Nat.le_refl _ | omega | (simp; omega), by first | (simp only [World.size_setCell, World.size_alloc]; omega) | (simp; omega), by simp [go_sem, *], by simp [go_sem, *], by simp [go_sem, *], by simp [go_sem, *], by (repeat' (first | (with_reducible exact Below.refl _ _) | (with_reducible refine Below.setCell ?_ ?_ _) | (with_reducible refine below_drewN' ?_ _) | (with_reducible refine below_drew' ?_) | (with_reducible refine Below.alloc ?_ ?_ _) | (with_reducible assumption) | go_size))⟩
      case rest =>
        obtain ⟨x, rfl, hx1, hx2, e0, e1, e2, ef, HBc⟩ := hcut
        rename_i wc
        clear hr0 p0 p1 HS
        have HWc := hid (HW.out.below HBc)
        have hr0 := NB.run HWc.out.nb
        have p0 := HWc.out.p0
        have p1 := HWc.out.p1
        have hpc := cell_lt' p0
        have HCd := hid (show TC wc.drew o from fun y hy => (HWc.out.wrt.cell ho hog).trans (HC.out y hy))
        have HOd := hid (show o < wc.drew.heap.size from Nat.lt_of_lt_of_le ho HWc.out.wrt.size)
        have hxg : ¬ g = x := by have := HW.out.nb.lt; omega
        have hxA : ¬ w.heap.size = x := by omega
        have hr8 := triN_lt HLT.out i k b
        go_upto_region 6 with fail
        go_region_held3 (fun wx => ((do let b ← isAgg 53; Next.value <$> (if b = true then (do let k ← sizeOf 53; Value.agg <$> loadCellsFrom ⟨g, 0, none⟩ 0 k #[]) else Go.load ⟨g, 0, none⟩) : Sem Next)).run Tryz.prog wx = .ok (.value (.agg (netV n s.1))) wx ∧ wx.cell? ⟨w.heap.size, 0, none⟩ = some (.int .i64 (i : Int)) ∧ wx.cell? ⟨w.heap.size, 1, none⟩ = some (.int .i64 (k : Int))) (first | exact ⟨NB.run (show NB wc.drew _ _ _ from HWc.out.nb), p0, p1⟩ | exact ⟨NB.run (HWc.out.nb.below' HX), (HX.cell (p := ⟨w.heap.size, 0, none⟩) hpc).trans p0, (HX.cell (p := ⟨w.heap.size, 1, none⟩) hpc).trans p1⟩ | exact ⟨NB.run ((HWc.out.nb.below' HX).far (p := ⟨x, 1, none⟩) hxg _), (World.cell?_of_block (a := ⟨w.heap.size, 0, none⟩) (heap_setCell_other _ ⟨x, 1, none⟩ w.heap.size _ hxA)).trans ((HX.cell (p := ⟨w.heap.size, 0, none⟩) hpc).trans p0), (World.cell?_of_block (a := ⟨w.heap.size, 1, none⟩) (heap_setCell_other _ ⟨x, 1, none⟩ w.heap.size _ hxA)).trans ((HX.cell (p := ⟨w.heap.size, 1, none⟩) hpc).trans p1)⟩)
          (first | (go_at_call 69; (with_reducible refine (triangle_any o n s.1 HLT.out i k b i6 k6 b6 _ HCd.out HOd.out).mono ?_); rintro e w' ⟨rfl, hb'⟩; obtain ⟨HX, hz0', hz', hc', hf'⟩ := bst (w0 := wc) (by go_grown) hb'; have k0 := (HX.cell (p := ⟨x, 0, none⟩) hx2).trans e0; have k1 := (HX.cell (p := ⟨x, 1, none⟩) hx2).trans e1; have k2 := (HX.cell (p := ⟨x, 2, none⟩) hx2).trans e2; have kf := (HX.frozen (p := ⟨x, 1, none⟩) hx2).trans ef; clear hb' hf' hc' hz' hz0') | fail)
        all_goals
          have HBz := hid ((HBc.trans (HX.mono HBc.size)).setCell (p := ⟨x, 1, none⟩) hx1 (.int .i64 ((triN s.1 i k b : Nat) : Int)))
          have HW3 := hid (HW.out.below HBz.out)
          have d0 : (w'.setCell ⟨x, 1, none⟩ (.int .i64 ((triN s.1 i k b : Nat) : Int))).cell? ⟨x, 0, none⟩ = some (.int .i64 (i : Int)) := by simp [go_sem, *]
          have d1 : (w'.setCell ⟨x, 1, none⟩ (.int .i64 ((triN s.1 i k b : Nat) : Int))).cell? ⟨x, 1, none⟩ = some (.int .i64 ((triN s.1 i k b : Nat) : Int)) := by simp [go_sem, *]
          have d2 : (w'.setCell ⟨x, 1, none⟩ (.int .i64 ((triN s.1 i k b : Nat) : Int))).cell? ⟨x, 2, none⟩ = some (.int .i64 (k : Int)) := by simp [go_sem, *]
          have hx3 : x < (w'.setCell ⟨x, 1, none⟩ (.int .i64 ((triN s.1 i k b : Nat) : Int))).heap.size := cell_lt' d0
          go_upto_region 7 with fail
          clear k0 k1 k2 kf e0 e1 e2 ef hr0 p0 p1
          generalize w'.setCell ⟨x, 1, none⟩ (.int .i64 ((triN s.1 i k b : Nat) : Int)) = w3 at *
          have hr0 := NB.run HW3.out.nb
          have p0 := HW3.out.p0
          have p1 := HW3.out.p1
          have hp3 := cell_lt' p0
          by_cases e : triN s.1 i k b = s.1 i k
          · have hq : (((triN s.1 i k b : Nat) : Int) == ((s.1 i k : Nat) : Int)) = true := by rw [e]; simp
            have HEQ := hid (show s2 = s by rw [HSX.out, stp_same e])
            clear e
            go_region_held3 (fun wx => ((do let b ← isAgg 53; Next.value <$> (if b = true then (do let k ← sizeOf 53; Value.agg <$> loadCellsFrom ⟨g, 0, none⟩ 0 k #[]) else Go.load ⟨g, 0, none⟩) : Sem Next)).run Tryz.prog wx = .ok (.value (.agg (netV n s.1))) wx ∧ wx.cell? ⟨w.heap.size, 0, none⟩ = some (.int .i64 (i : Int)) ∧ wx.cell? ⟨w.heap.size, 1, none⟩ = some (.int .i64 (k : Int)) ∧ wx.cell? ⟨x, 0, none⟩ = some (.int .i64 (i : Int)) ∧ wx.cell? ⟨x, 1, none⟩ = some (.int .i64 ((triN s.1 i k b : Nat) : Int)) ∧ wx.cell? ⟨x, 2, none⟩ = some (.int .i64 (k : Int))) (first | exact ⟨NB.run (show NB w3.drew _ _ _ from HW3.out.nb), p0, p1, d0, d1, d2⟩ | exact ⟨NB.run (HW3.out.nb.below' HY), (HY.cell (p := ⟨w.heap.size, 0, none⟩) hp3).trans p0, (HY.cell (p := ⟨w.heap.size, 1, none⟩) hp3).trans p1, (HY.cell (p := ⟨x, 0, none⟩) hx3).trans d0, (HY.cell (p := ⟨x, 1, none⟩) hx3).trans d1, (HY.cell (p := ⟨x, 2, none⟩) hx3).trans d2⟩)
              (first | (go_at_call 37; (with_reducible refine (edge_any n s.1 i k i6 k6 _).mono ?_); rintro e w5 ⟨rfl, hb'⟩; obtain ⟨HY, hz0', hz', hc', hf'⟩ := bst (w0 := w3) (by go_grown) hb'; clear hb' hf' hc' hz' hz0') | fail)
            all_goals
              go_wp2_with fail
              go_roundw
              case rel => exact ⟨b + 1, by omega, by go_num, by rw [HS2.out, HEQ.out]; exact hid (HW3.out.below HY)⟩
              case measure => simp [intOf]; omega
          · have hq : (((triN s.1 i k b : Nat) : Int) == ((s.1 i k : Nat) : Int)) = false := by rw [beq_eq_false_iff_ne]; omega
            have HEQ := hid (show s2 = (putR s.1 i k (triN s.1 i k b), s.2 ++ [(i, triN s.1 i k b, k, b)]) by rw [HSX.out, stp_less e])
            clear e
            go_region_held3 (fun wx => ((do let b ← isAgg 53; Next.value <$> (if b = true then (do let k ← sizeOf 53; Value.agg <$> loadCellsFrom ⟨g, 0, none⟩ 0 k #[]) else Go.load ⟨g, 0, none⟩) : Sem Next)).run Tryz.prog wx = .ok (.value (.agg (netV n s.1))) wx ∧ wx.cell? ⟨w.heap.size, 0, none⟩ = some (.int .i64 (i : Int)) ∧ wx.cell? ⟨w.heap.size, 1, none⟩ = some (.int .i64 (k : Int)) ∧ wx.cell? ⟨x, 0, none⟩ = some (.int .i64 (i : Int)) ∧ wx.cell? ⟨x, 1, none⟩ = some (.int .i64 ((triN s.1 i k b : Nat) : Int)) ∧ wx.cell? ⟨x, 2, none⟩ = some (.int .i64 (k : Int))) (first | exact ⟨NB.run (show NB w3.drew _ _ _ from HW3.out.nb), p0, p1, d0, d1, d2⟩ | exact ⟨NB.run (HW3.out.nb.below' HY), (HY.cell (p := ⟨w.heap.size, 0, none⟩) hp3).trans p0, (HY.cell (p := ⟨w.heap.size, 1, none⟩) hp3).trans p1, (HY.cell (p := ⟨x, 0, none⟩) hx3).trans d0, (HY.cell (p := ⟨x, 1, none⟩) hx3).trans d1, (HY.cell (p := ⟨x, 2, none⟩) hx3).trans d2⟩)
              (first | (go_at_call 37; (with_reducible refine (edge_any n s.1 i k i6 k6 _).mono ?_); rintro e w5 ⟨rfl, hb'⟩; obtain ⟨HY, hz0', hz', hc', hf'⟩ := bst (w0 := w3) (by go_grown) hb'; clear hb' hf' hc' hz' hz0') | fail)
            all_goals
              have HW5 := hid (HW3.out.below HY)
              have f0 := (HY.cell (p := ⟨x, 0, none⟩) hx3).trans d0
              have f1 := (HY.cell (p := ⟨x, 1, none⟩) hx3).trans d1
              have f2 := (HY.cell (p := ⟨x, 2, none⟩) hx3).trans d2
              have HT5 := hid (show TB w5 from tb_wr HT.out HW5.out.wrt hgT)
              go_wp2_with fail
              (with_reducible refine (put_any g n s.1 i (triN s.1 i k b) k i6 k6 hr8 _ HT5.out HW5.out.nb).mono ?_)
              rintro e w6 ⟨rfl, hn6, hw6⟩
              have hx5 : x < w5.heap.size := cell_lt' f0
              have f0 := (hw6.cell hx5 (fun e => hxg e.symm)).trans f0
              have f1 := (hw6.cell hx5 (fun e => hxg e.symm)).trans f1
              have f2 := (hw6.cell hx5 (fun e => hxg e.symm)).trans f2
              have HP := hid (show NW w w6 g n i k (putR s.1 i k (triN s.1 i k b), s.2) u7 from ⟨hn6, HW5.out.wrt.trans hw6, (hw6.cell (cell_lt' HW5.out.p0) (fun e => by omega)).trans HW5.out.p0, (hw6.cell (cell_lt' HW5.out.p1) (fun e => by omega)).trans HW5.out.p1, own_wr HW5.out.own hw6 (by omega), Nat.le_trans HW5.out.siz hw6.size⟩)
              have hz6 := HP.out.siz
              clear hn6 hw6
              go_wp2_with (at_builtin; refine wpList_append_own _ rfl _ _ 54 rfl (w.heap.size + 1) 122 j0 _ 4 32 Tryz.underlying54 hj0 hz0 hz1 hz2 rfl (by decide) _ _ _ rfl (HP.out.own.alloc _) ⟨w6.heap.size, 0, none⟩ 1 1 [.int .i64 (i : Int), .int .i64 ((triN s.1 i k b : Nat) : Int), .int .i64 (k : Int), .int .i64 (b : Int)] rfl rfl ?c1 ?c2 ?c3 ?c4 ?c5 ?_)
              case c1 =>
                intro j x hj
                match j, hj with
                | 0, hj => simp at hj; subst hj; simp [Addr.add, go_sem]
                | 1, hj => simp at hj; subst hj; simp [Addr.add, go_sem]
                | 2, hj => simp at hj; subst hj; simp [Addr.add, go_sem]
                | 3, hj => simp at hj; subst hj; simp [Addr.add, go_sem]
              case c2 => intro x hx; simp at hx; rcases hx with rfl | rfl | rfl | rfl <;> rfl
              case c3 => unfold maxLen; omega
              case c4 => omega
              case c5 => simp; omega
              intro v' w7 hown' hgrow _
              have HP7 := hid (show NW w w7 g n i k s2 v' from by
                have hnl := HP.out.own.lt
                have hal := fun (q : Nat) (hq : q < w6.heap.size) (hne : q < w.heap.size + 1) => (hgrow.block q (by simp; omega) (fun e => by have := (hnl q e.symm).1; omega)).trans (Below.heap_alloc w6 _ q hq)
                refine ⟨?_, ?_, ?_, ?_, ?_, ?_⟩
                · rw [HEQ.out]
                  exact (hal g HP.out.nb.lt (by omega)).trans HP.out.nb
                · exact ((HP.out.wrt).trans (Wr.alloc g w6 _)).grown hgrow (fun q hq => by have := (hnl q hq).1; omega)
                · exact (World.cell?_of_block (a := ⟨w.heap.size, 0, none⟩) (hal w.heap.size (cell_lt' HP.out.p0) (by omega))).trans HP.out.p0
                · exact (World.cell?_of_block (a := ⟨w.heap.size, 1, none⟩) (hal w.heap.size (cell_lt' HP.out.p1) (by omega))).trans HP.out.p1
                · rw [HEQ.out]
                  show w7.ownsRow _ _ 4 v' (s.2 ++ [(i, triN s.1 i k b, k, b)]).length (stpC (s.2 ++ [(i, triN s.1 i k b, k, b)]))
                  rw [stpC_snoc, List.length_append]
                  exact hown'
                · have := hgrow.size; simp at this; omega)
              clear hown' hgrow
              go_wp2_with fail
              go_roundw
              case rel => exact ⟨b + 1, by omega, by go_num, by rw [HS2.out]; exact HP7⟩
              case measure => simp [intOf]; omega
    · obtain rfl : b = n := by omega
      have hdb : decide ((b : Int) < (b : Int)) = false := by simp
      go_wp2_with fail
      go_ret
      exact ⟨⟨_, rfl, own_less HW.out.own (Nat.le_succ _)⟩, HW.out.nb, HW.out.wrt⟩
end
section
open Go.RowKit
set_option linter.unusedVariables false
set_option linter.unusedSimpArgs false
set_option maxHeartbeats 1000000 in
theorem phas_any (a b i : Nat) (w : World) :
    Calls Tryz.prog 70 #[.agg #[.int .i64 a, .int .i64 b], .int .i64 i] w fun e w' => e = .returned (.bool (i == a || i == b)) ∧ Below w.heap.size w w' := by
  by_cases h1 : i = a
  · have hq : ((i : Int) == (a : Int)) = true := by rw [h1]; simp
    have HR := hid (show (i == a || i == b) = true by simp [h1])
    clear h1
    have HS := AllLt.start w; go_enter Tryz.func70, Tryz.ntmps70
    go_wp2
    go_ret
    exact ⟨ret_bool HR.out.symm, by (repeat' (first | (with_reducible exact Below.refl _ _) | (with_reducible refine Below.setCell ?_ ?_ _) | (with_reducible refine below_drewN' ?_ _) | (with_reducible refine below_drew' ?_) | (with_reducible refine Below.alloc ?_ ?_ _) | (with_reducible assumption) | go_size))⟩
  · have hq : ((i : Int) == (a : Int)) = false := by rw [beq_eq_false_iff_ne]; omega
    by_cases h2 : i = b
    · have hq2 : ((i : Int) == (b : Int)) = true := by rw [h2]; simp
      have HR := hid (show (i == a || i == b) = true by simp [h2])
      clear h1 h2
      have HS := AllLt.start w; go_enter Tryz.func70, Tryz.ntmps70
      go_wp2
      go_ret
      exact ⟨ret_bool (by first | (rw [HR.out]; done) | (rw [HR.out]; first | rfl | exact hq2)), by (repeat' (first | (with_reducible exact Below.refl _ _) | (with_reducible refine Below.setCell ?_ ?_ _) | (with_reducible refine below_drewN' ?_ _) | (with_reducible refine below_drew' ?_) | (with_reducible refine Below.alloc ?_ ?_ _) | (with_reducible assumption) | go_size))⟩
    · have hq2 : ((i : Int) == (b : Int)) = false := by rw [beq_eq_false_iff_ne]; omega
      have HR := hid (show (i == a || i == b) = false by simp [h1, h2])
      clear h1 h2
      have HS := AllLt.start w; go_enter Tryz.func70, Tryz.ntmps70
      go_wp2
      go_ret
      exact ⟨ret_bool (by first | (rw [HR.out]; done) | (rw [HR.out]; first | rfl | exact hq2)), by (repeat' (first | (with_reducible exact Below.refl _ _) | (with_reducible refine Below.setCell ?_ ?_ _) | (with_reducible refine below_drewN' ?_ _) | (with_reducible refine below_drew' ?_) | (with_reducible refine Below.alloc ?_ ?_ _) | (with_reducible assumption) | go_size))⟩
set_option maxHeartbeats 1000000 in
theorem isBeside_any (a b c d : Nat) (w : World) :
    Calls Tryz.prog 59 #[.agg #[.int .i64 a, .int .i64 b], .agg #[.int .i64 c, .int .i64 d]] w fun e w' => e = .returned (.bool (besB (a, b) (c, d))) ∧ Below w.heap.size w w' := by
  by_cases ep : a = c ∧ b = d
  · obtain ⟨rfl, rfl⟩ := ep
    have HR := hid (show besB (a, b) (a, b) = false by simp [besB])
    have HS := AllLt.start w; have hn2 := lt2; have hn3 := lt3; have hn4 := lt4; go_enter Tryz.func59, Tryz.ntmps59
    go_wp2_with fail
    go_ret
    exact ⟨ret_bool HR.out.symm, by (repeat' (first | (with_reducible exact Below.refl _ _) | (with_reducible refine Below.setCell ?_ ?_ _) | (with_reducible refine below_drewN' ?_ _) | (with_reducible refine below_drew' ?_) | (with_reducible refine Below.alloc ?_ ?_ _) | (with_reducible assumption) | go_size))⟩
  · have hne : ((a, b) == (c, d)) = false := by
      rw [beq_eq_false_iff_ne]
      intro e
      exact ep ⟨congrArg Prod.fst e, congrArg Prod.snd e⟩
    have HB := hid (show besB (a, b) (c, d) = ((c == a || c == b) || (d == a || d == b)) by unfold besB; rw [hne]; rfl)
    have hcd : (((a : Int) == (c : Int)) && ((b : Int) == (d : Int))) = false := by
      rw [Bool.and_eq_false_iff]
      by_cases e : a = c
      · right; rw [beq_eq_false_iff_ne]; intro h; exact ep ⟨e, by omega⟩
      · left; rw [beq_eq_false_iff_ne]; omega
    by_cases e : a = c
    · have hq2 : ((b : Int) == (d : Int)) = false := by rw [beq_eq_false_iff_ne]; intro h; exact ep ⟨e, by omega⟩
      subst e
      clear ep hne hcd
      have HR := hid (show besB (a, b) (a, d) = true by rw [HB.out]; simp)
      have H1 := hid (show (a == a || a == b) = true by simp)
      have HS := AllLt.start w; have hn2 := lt2; have hn3 := lt3; have hn4 := lt4; go_enter Tryz.func59, Tryz.ntmps59
      go_wp2_with (first | (go_at_call 70; (with_reducible refine (phas_any a b a _).mono ?_); rintro e w' ⟨rfl, hb⟩; obtain ⟨HB, hz0, hz, hc, hf⟩ := bst (w0 := w) (by go_grown) hb; clear hb; (try simp at hz); (first | ((refine HS.g5 (m := w'.heap.size) ?_ ?_); (focus omega); intro HS) | ((refine HS.g4 (m := w'.heap.size) ?_ ?_); (focus omega); intro HS) | ((refine HS.g3 (m := w'.heap.size) ?_ ?_); (focus omega); intro HS) | ((refine HS.g2 (m := w'.heap.size) ?_ ?_); (focus omega); intro HS) | ((refine HS.g1 (m := w'.heap.size) ?_ ?_); (focus omega); intro HS) | ((refine HS.g0 (m := w'.heap.size) ?_ ?_); (focus omega); intro HS)); have HU := HS; simp only [AllLt] at HU; rw [H1.out]))
      go_ret
      exact ⟨ret_bool HR.out.symm, by (repeat' (first | (with_reducible exact Below.refl _ _) | (with_reducible refine Below.setCell ?_ ?_ _) | (with_reducible refine below_drewN' ?_ _) | (with_reducible refine below_drew' ?_) | (with_reducible refine Below.alloc ?_ ?_ _) | (with_reducible assumption) | go_size))⟩
    · have hq1 : ((a : Int) == (c : Int)) = false := by rw [beq_eq_false_iff_ne]; omega
      clear ep hne hcd e
      cases h1 : (c == a || c == b)
      · cases h2 : (d == a || d == b)
        all_goals
          have H1 := hid h1
          have H2 := hid h2
          have HR := hid (HB.out.trans (by rw [h1, h2]))
          clear h1 h2
          have HS := AllLt.start w; have hn2 := lt2; have hn3 := lt3; have hn4 := lt4; go_enter Tryz.func59, Tryz.ntmps59
          go_wp2_with (first | (go_at_call 70; (with_reducible refine (phas_any a b c _).mono ?_); rintro e w' ⟨rfl, hb⟩; obtain ⟨HB, hz0, hz, hc, hf⟩ := bst (w0 := w) (by go_grown) hb; clear hb; (try simp at hz); (first | ((refine HS.g5 (m := w'.heap.size) ?_ ?_); (focus omega); intro HS) | ((refine HS.g4 (m := w'.heap.size) ?_ ?_); (focus omega); intro HS) | ((refine HS.g3 (m := w'.heap.size) ?_ ?_); (focus omega); intro HS) | ((refine HS.g2 (m := w'.heap.size) ?_ ?_); (focus omega); intro HS) | ((refine HS.g1 (m := w'.heap.size) ?_ ?_); (focus omega); intro HS) | ((refine HS.g0 (m := w'.heap.size) ?_ ?_); (focus omega); intro HS)); have HU := HS; simp only [AllLt] at HU; rw [H1.out]) | (go_at_call 70; (with_reducible refine (phas_any a b d _).mono ?_); rintro e w' ⟨rfl, hb⟩; obtain ⟨HB, hz0, hz, hc, hf⟩ := bst (w0 := w) (by go_grown) hb; clear hb; (try simp at hz); (first | ((refine HS.g5 (m := w'.heap.size) ?_ ?_); (focus omega); intro HS) | ((refine HS.g4 (m := w'.heap.size) ?_ ?_); (focus omega); intro HS) | ((refine HS.g3 (m := w'.heap.size) ?_ ?_); (focus omega); intro HS) | ((refine HS.g2 (m := w'.heap.size) ?_ ?_); (focus omega); intro HS) | ((refine HS.g1 (m := w'.heap.size) ?_ ?_); (focus omega); intro HS) | ((refine HS.g0 (m := w'.heap.size) ?_ ?_); (focus omega); intro HS)); have HU := HS; simp only [AllLt] at HU; rw [H2.out]))
          go_ret
          exact ⟨ret_bool HR.out.symm, by (repeat' (first | (with_reducible exact Below.refl _ _) | (with_reducible refine Below.setCell ?_ ?_ _) | (with_reducible refine below_drewN' ?_ _) | (with_reducible refine below_drew' ?_) | (with_reducible refine Below.alloc ?_ ?_ _) | (with_reducible assumption) | go_size))⟩
      · have H1 := hid h1
        have HR := hid (show besB (a, b) (c, d) = true by rw [HB.out, h1]; rfl)
        clear h1
        have HS := AllLt.start w; have hn2 := lt2; have hn3 := lt3; have hn4 := lt4; go_enter Tryz.func59, Tryz.ntmps59
        go_wp2_with (first | (go_at_call 70; (with_reducible refine (phas_any a b c _).mono ?_); rintro e w' ⟨rfl, hb⟩; obtain ⟨HB, hz0, hz, hc, hf⟩ := bst (w0 := w) (by go_grown) hb; clear hb; (try simp at hz); (first | ((refine HS.g5 (m := w'.heap.size) ?_ ?_); (focus omega); intro HS) | ((refine HS.g4 (m := w'.heap.size) ?_ ?_); (focus omega); intro HS) | ((refine HS.g3 (m := w'.heap.size) ?_ ?_); (focus omega); intro HS) | ((refine HS.g2 (m := w'.heap.size) ?_ ?_); (focus omega); intro HS) | ((refine HS.g1 (m := w'.heap.size) ?_ ?_); (focus omega); intro HS) | ((refine HS.g0 (m := w'.heap.size) ?_ ?_); (focus omega); intro HS)); have HU := HS; simp only [AllLt] at HU; rw [H1.out]))
        go_ret
        exact ⟨ret_bool HR.out.symm, by (repeat' (first | (with_reducible exact Below.refl _ _) | (with_reducible refine Below.setCell ?_ ?_ _) | (with_reducible refine below_drewN' ?_ _) | (with_reducible refine below_drew' ?_) | (with_reducible refine Below.alloc ?_ ?_ _) | (with_reducible assumption) | go_size))⟩
end
section
open Go.RowKit
set_option linter.unusedVariables false
set_option linter.unusedSimpArgs false
theorem MW.block {g : Nat} {w w' : World} (h : MW g w w') {k : Nat} (hk : k ≠ g) : w'.heap[k]? = w.heap[k]? := by
  obtain ⟨o, rfl⟩ := h
  show (w.heap.setIfInBounds g o)[k]? = _
  rw [Array.getElem?_setIfInBounds, if_neg (fun e => hk e.symm)]
theorem MW.size {g : Nat} {w w' : World} (h : MW g w w') : w'.heap.size = w.heap.size := by
  obtain ⟨o, rfl⟩ := h
  show (w.heap.setIfInBounds g o).size = _
  simp
theorem MW.keeps {g q : Nat} {w0 w w' : World} (h : MW g w w') (hw : Wr q w0 w) (hg : w0.heap.size ≤ g) : Wr q w0 w' := by
  have hs := h.size
  have hb := fun k (hk : k ≠ g) => h.block hk
  obtain ⟨o, rfl⟩ := h
  exact ⟨hw.os, hw.tape, hw.output, by rw [hs]; exact hw.size, fun k hk hq => (hb k (by omega)).trans (hw.block k hk hq)⟩
theorem own_block {w w' : World} {b T sz n : Nat} {v : Value} {xs : List Value} (h : w.ownsRow b T sz v n xs) (e : ∀ k, v.ownBlock = some k → w'.heap[k]? = w.heap[k]?) : w'.ownsRow b T sz v n xs := by
  refine ⟨h.1, h.2.imp id ?_⟩
  rintro ⟨g, cap, cur, rfl, hB, hg, r⟩
  exact ⟨g, cap, cur, rfl, hB, (e g rfl).trans hg, r⟩
theorem own_slc {w : World} {b T sz n : Nat} {v : Value} {xs : List Value} (h : w.ownsRow b T sz v n xs) : ∃ a c, v = .slice a n c := by
  rcases h.2 with ⟨hv, h0⟩ | ⟨g, cap, cur, hv, _⟩
  · exact ⟨_, _, by rw [hv, h0]⟩
  · exact ⟨_, _, hv⟩
theorem own_map {w : World} {b T sz n : Nat} {v : Value} {xs : List Value} {mp : Nat} {l : List (Nat × Nat)} (h : w.ownsRow b T sz v n xs) (hm : OpM w mp l) : ∀ k, v.ownBlock = some k → k ≠ mp := by
  intro k hk e
  subst e
  obtain ⟨es, clock, hb, _⟩ := hm
  rcases h.2 with ⟨rfl, _⟩ | ⟨g, cap, cur, rfl, _, hg, _⟩
  · cases hk
  · have : g = k := by simpa [Value.ownBlock] using hk
    rw [this, hb] at hg
    cases hg
/-- A pair in a block of its own. -/
def PV (w : World) (x : Nat) (p : Nat × Nat) : Prop := w.heap[x]? = some (.cells #[.int .i64 (p.1 : Int), .int .i64 (p.2 : Int)] 104 (0, 0))
theorem PV.lt {w : World} {x : Nat} {p : Nat × Nat} (h : PV w x p) : x < w.heap.size := (Array.getElem?_eq_some_iff.1 h).1
theorem PV.made (w : World) (p : Nat × Nat) : PV (w.alloc (.cells #[.int .i64 (p.1 : Int), .int .i64 (p.2 : Int)] 104)) w.heap.size p := heap_alloc_new w _
theorem PV.c0 {w : World} {x : Nat} {p : Nat × Nat} (h : PV w x p) : w.cell? ⟨x, 0, none⟩ = some (.int .i64 (p.1 : Int)) := by rw [cell_of_row w x _ _ _ _ h]; rfl
theorem PV.c1 {w : World} {x : Nat} {p : Nat × Nat} (h : PV w x p) : w.cell? ⟨x, 1, none⟩ = some (.int .i64 (p.2 : Int)) := by rw [cell_of_row w x _ _ _ _ h]; rfl
theorem PV.below {w w' : World} {x : Nat} {p : Nat × Nat} (h : PV w x p) (hb : Below w.heap.size w w') : PV w' x p := (hb.block x h.lt).trans h
theorem PV.wr {w w' : World} {x g : Nat} {p : Nat × Nat} (h : PV w x p) (hw : Wr g w w') (hx : x ≠ g) : PV w' x p := (hw.block x h.lt hx).trans h
theorem PV.map {w w' : World} {x mp : Nat} {p : Nat × Nat} {l : List (Nat × Nat)} (h : PV w x p) (hw : MW mp w w') (hm : OpM w mp l) : PV w' x p := by
  refine (hw.block (fun e => ?_)).trans h
  subst e
  obtain ⟨es, clock, hb, _⟩ := hm
  unfold PV at h
  rw [h] at hb
  cases hb
theorem pv_own {w : World} {x : Nat} {p : Nat × Nat} {b sz n : Nat} {v : Value} {xs : List Value} (h : PV w x p) (ho : w.ownsRow b 122 sz v n xs) : some x ≠ v.ownBlock := by
  intro e
  rcases ho.2 with ⟨rfl, _⟩ | ⟨g, cap, cur, rfl, _, hg, _⟩
  · cases e
  · have : x = g := by simpa [Value.ownBlock] using e
    subst this
    unfold PV at h
    rw [h] at hg
    injection hg with hg
    injection hg with _ h2
    exact absurd h2 (by decide)
/-- What closing knows of the world. -/
structure CS (w wr : World) (g mp n : Nat) (s : ClS) (v pv : Value) (l : List (Nat × Nat)) : Prop where
  nb : NB wr g n s.1
  wrt : Wr g w wr
  own : wr.ownsRow w.heap.size 122 4 v s.2.length (stpC s.2)
  prs : wr.ownsRow w.heap.size 104 2 pv (edL n).length (prC (edL n))
  map : OpM wr mp l
  mpl : w.heap.size ≤ mp
theorem CS.below {w wr wr' : World} {g mp n : Nat} {s : ClS} {v pv : Value} {l : List (Nat × Nat)} (h : CS w wr g mp n s v pv l) (hb : Below wr.heap.size wr wr') : CS w wr' g mp n s v pv l :=
  ⟨h.nb.below' hb, h.wrt.trans (Wr.of_below hb), own_below' h.own hb, own_below' h.prs hb, h.map.below hb, h.mpl⟩
theorem CS.mapped {w wr wr' : World} {g mp n : Nat} {s : ClS} {v pv : Value} {l l' : List (Nat × Nat)} (h : CS w wr g mp n s v pv l) (hg : g < w.heap.size) (hm : OpM wr' mp l') (hw : MW mp wr wr') : CS w wr' g mp n s v pv l' := by
  have hmp := h.mpl
  exact ⟨(hw.block (by omega)).trans h.nb, hw.keeps h.wrt h.mpl, own_block h.own fun k hk => hw.block (own_map h.own h.map k hk), own_block h.prs fun k hk => hw.block (own_map h.prs h.map k hk), hm, h.mpl⟩
theorem CS.wrote {w wr wr' : World} {g mp n : Nat} {s : ClS} {R : Nat → Nat → Nat} {v pv : Value} {l : List (Nat × Nat)} (h : CS w wr g mp n s v pv l) (hg : g < w.heap.size) (hn : NB wr' g n R) (hw : Wr g wr wr') : CS w wr' g mp n (R, s.2) v pv l :=
  ⟨hn, h.wrt.trans hw, own_wr h.own hw hg, own_wr h.prs hw hg, h.map.block (hw.block mp h.map.lt (by have := h.mpl; omega)), h.mpl⟩
theorem CS.grown {w wr wr' : World} {g mp n : Nat} {R : Nat → Nat → Nat} {nt ch : List Nt} {v v' pv : Value} {l : List (Nat × Nat)} (h : CS w wr g mp n (R, nt) v pv l) (hg : g < w.heap.size) (hown : wr'.ownsRow w.heap.size 122 4 v' (nt.length + ch.length) (stpC nt ++ stpC ch)) (hgr : wr.grownBy wr' v.ownBlock) : CS w wr' g mp n (R, nt ++ ch) v' pv l := by
  have hnl := h.own.lt
  refine ⟨(hgr.block g h.nb.lt (fun e => by have := (hnl g e.symm).1; omega)).trans h.nb, h.wrt.grown hgr (fun k hk => (hnl k hk).1), ?_, ?_, ?_, h.mpl⟩
  · show wr'.ownsRow _ _ 4 v' (nt ++ ch).length (stpC (nt ++ ch))
    rw [List.length_append, show stpC (nt ++ ch) = stpC nt ++ stpC ch by simp [stpC]]
    exact hown
  · refine own_block h.prs fun k hk => hgr.block k (h.prs.lt k hk).2 (fun e => ?_)
    exact own_diff' h.prs h.own (by decide) (e.symm.trans hk.symm) hk
  · refine h.map.block (hgr.block mp h.map.lt (fun e => ?_))
    exact own_map h.own h.map mp e.symm rfl
theorem pairKey : Go.Maps.Keyed Tryz.prog 104 := Go.Maps.Keyed.of_law (deep_law_laid k_laid (m := 10) (by decide) (by decide +kernel) (by kernel_rfl) (by kernel_rfl))
theorem keys36 : ((List.range 6).all fun a => (List.range 6).all fun b => (keyOf Tryz.prog 104 (pvv (a, b))).isSome) = true := by kernel_rfl
theorem key_of {p : Nat × Nat} (h1 : p.1 < 6) (h2 : p.2 < 6) : ∃ kl, keyOf Tryz.prog 104 (pvv p) = some kl := by
  have := List.all_eq_true.1 (List.all_eq_true.1 keys36 p.1 (List.mem_range.2 h1)) p.2 (List.mem_range.2 h2)
  exact Option.isSome_iff_exists.1 this
theorem key_ed {n : Nat} (h6 : n ≤ 6) {p : Nat × Nat} (hp : p ∈ edL n) : ∃ kl, keyOf Tryz.prog 104 (pvv p) = some kl := by
  have := edL_mem.1 hp
  exact key_of (by omega) (by omega)
theorem zeroBool (w : World) : (zeroValue 4).run Tryz.prog w = .ok (.bool false) w := by kernel_rfl
open Classical in
/-- how much a network that lies in a block has left -/
noncomputable def muW (g n : Nat) (w : World) : Nat := if h : ∃ R, NB w g n R then mu n h.choose else 0
theorem NB.same {w : World} {g n : Nat} {M N : Nat → Nat → Nat} (h : NB w g n M) (k : NB w g n N) {i j : Nat} (hi : i < 6) (hj : j < 6) : M i j = N i j := by
  have h1 := h.cell hi hj
  rw [k.cell hi hj] at h1
  simp at h1
  omega
theorem muW_eq {w : World} {g n : Nat} {R : Nat → Nat → Nat} (h6 : n ≤ 6) (h : NB w g n R) : muW g n w = mu n R := by
  have hx : ∃ R, NB w g n R := ⟨R, h⟩
  unfold muW
  rw [dif_pos hx]
  have h2 := hx.choose_spec
  generalize hx.choose = S at *
  have : ∀ l : List (Nat × Nat), (∀ p ∈ l, p.1 < 6 ∧ p.2 < 6) → sumP (fun p => S p.1 p.2) l = sumP (fun p => R p.1 p.2) l := by
    intro l
    induction l with
    | nil => intro _; rfl
    | cons p l ih =>
      intro H
      have hp := H p (by simp)
      show S p.1 p.2 + sumP _ l = R p.1 p.2 + sumP _ l
      rw [ih fun q hq => H q (by simp [hq]), h2.same h hp.1 hp.2]
  exact this _ fun p hp => by have := edL_mem.1 hp; omega
theorem stpC_one (nt : List Nt) : ∀ u ∈ stpC nt, u.oneCell' = true := by
  intro u hu
  simp only [stpC, List.mem_flatMap] at hu
  obtain ⟨x, _, hx⟩ := hu
  simp at hx
  rcases hx with rfl | rfl | rfl | rfl <;> rfl
theorem stpC_len : ∀ nt : List Nt, (stpC nt).length = nt.length * 4
  | [] => rfl
  | x :: nt => by
    have := stpC_len nt
    simp only [stpC, List.flatMap_cons, List.length_append, List.length_cons, List.length_nil] at this ⊢
    omega
end
section
open Go.RowKit
set_option linter.unusedVariables false
set_option linter.unusedSimpArgs false
/-- What holds where a pass begins. -/
def LB (w wr : World) (o g mp n : Nat) (R : Nat → Nat → Nat) (v pv : Value) : Prop :=
  ∃ t s l, itr n (R, []) t = s ∧ OkR n s.1 ∧ CS w wr g mp n s v pv l ∧ InvL n s.1 l
theorem nd_take {l : List (Nat × Nat)} (h : l.Nodup) {j : Nat} (hj : j < l.length) : l.getD j (0, 0) ∉ l.take j := by
  intro hm
  have h1 : (l.take (j + 1)).Nodup := (List.take_sublist (j + 1) l).nodup h
  rw [takeP _ _ hj] at h1
  exact (List.nodup_append.1 h1).2.2 _ hm _ (by simp) rfl
theorem nar_split (s : ClS) (i k n : Nat) : narF s i k n = ((narF (s.1, []) i k n).1, s.2 ++ (narF (s.1, []) i k n).2) := by
  have := narF_app s.1 s.2 [] i k n
  rw [List.append_nil] at this
  exact this
theorem own_some {w : World} {b T sz n m : Nat} {a : Option Addr} {c : Nat} {xs : List Value} (h : w.ownsRow b T sz (.slice a m c) n xs) (hn : ¬ n = 0) : ∃ g, a = some ⟨g, 0, none⟩ ∧ b ≤ g := by
  rcases h.2 with ⟨_, h0⟩ | ⟨g, cap, cur, e, hB, _⟩
  · exact absurd h0 hn
  · injection e with e1
    exact ⟨g, e1, hB⟩
/-- the frame where a pass begins -/
def JF (w : World) (o g n : Nat) (R : Nat → Nat → Nat) (a' : Act) (w' : World) : Prop :=
  (∃ (mp : Nat) (v pv : Value) (e2 e3 e8 e9 e10 e11 e12 e13 e14 e15 e16 e17 e18 e19 e20 e21 e22 e23 e24 e25 e26 e27 e28 e29 e30 e31 e32 e33 e34 e35 e36 e37 e38 e39 e40 e41 e42 e43 e44 e45 e46 e47 e48 e49 e50 e51 e52 e53 e54 e55 e56 e57 e58 e59 e60 e61 e62 e63 e64 e65 e66 e67 : Value), a' = { tmps := #[.pointer (some ⟨g, 0, none⟩), .pointer (some ⟨o, 0, none⟩), e2, e3, .slice none 0 0, v, pv, .map (some mp), e8, e9, e10, e11, e12, e13, e14, e15, e16, e17, e18, e19, e20, e21, e22, e23, e24, e25, e26, e27, e28, e29, e30, e31, e32, e33, e34, e35, e36, e37, e38, e39, e40, e41, e42, e43, e44, e45, e46, e47, e48, e49, e50, e51, e52, e53, e54, e55, e56, e57, e58, e59, e60, e61, e62, e63, e64, e65, e66, e67], defers := [] } ∧ LB w w' o g mp n R v pv)
set_option maxHeartbeats 8000000 in
set_option maxRecDepth 100000 in
theorem close_any (o g n : Nat) (R : Nat → Nat → Nat) (hR : OkR n R) (w : World) (hT : TB w) (hC : TC w o) (ho : o < w.heap.size) (hog : o ≠ g) (hN : NB w g n R) :
    Calls Tryz.prog 39 #[.pointer (some ⟨g, 0, none⟩), .pointer (some ⟨o, 0, none⟩)] w fun e w' => (∃ v, e = .returned v ∧ w'.ownsRow w.heap.size 122 4 v (cloN n R).length (stpC (cloN n R))) ∧ NB w' g n (cloR n R) ∧ Wr g w w' := by
  obtain ⟨j0, hj0, hz0, hz1, hz2⟩ := info_parts stepInfo
  have h6 := hR.le
  have hl15 := edL_len h6
  have hgl := hN.lt
  have hgT := tb_ne hT hN
  have HT := hid hT
  have HC := hid hC
  have HOK := hid hR
  have HN := hid hN
  have HMU := hid (mu_bd hR)
  have hmm := @run_makeMap Tryz.prog
  have HKE := hid (fun (p : Nat × Nat) (hp : p ∈ edL n) => key_ed h6 hp)
  clear hT hC hR hN
  have HS := AllLt.start w; go_enter Tryz.func39, Tryz.ntmps39
  go_wp2
  refine wp_scope_jumps 0 (JF w o g n R) (fun _ w' => muW g n w') rfl ?_ ?_
  · go_upto_region 2 with fail
    have r0 := NB.run HN.out
    go_wp2_with (refine ld_net rfl _ rfl rfl HN.out ?_)
    (with_reducible refine (pairs_any n h6 R _).mono ?_)
    rintro e w1 ⟨⟨pv, rfl, hown⟩, hb⟩
    obtain ⟨pa, pc, rfl⟩ := own_slc hown
    have HCS0 := hid (show CS w (w1.alloc (.map #[] 0)) g w1.heap.size n (R, []) (.slice none 0 0) (.slice pa (edL n).length pc) [] from
      ⟨(HN.out.below' hb).alloc _, (Wr.of_below hb).trans (Wr.alloc g w1 _), World.ownsRow_nil _ _ _ _, own_less (hown.alloc _) (Nat.le_succ _), ⟨#[], 0, heap_alloc_new w1 _, rfl⟩, hb.size⟩)
    generalize hmp : w1.heap.size = mp at *
    clear hown hb r0
    go_upto_region 4 with fail
    generalize w1.alloc (.map #[] 0) = w2 at *
    clear hmp
    go_wp2_with fail
    go_loopw [22] (fun a wr => ∃ j : Nat, j ≤ (edL n).length ∧ a = .int .i64 j ∧ Hid (CS w wr g mp n (R, []) (.slice none 0 0) (.slice pa (edL n).length pc) ((edL n).take j))) (fun a _ => (edL n).length - (intOf a).toNat)
    case atStart => exact ⟨0, by omega, rfl, by simpa using HCS0⟩
    case round =>
      obtain ⟨j, hj, rfl, HCS⟩ := hrel
      clear HS HCS0
      obtain ⟨wi, rfl⟩ : ∃ wi : World, wi = wr := ⟨_, rfl⟩
      by_cases hjl : j < (edL n).length
      · have hdj : decide ((j : Int) < ((edL n).length : Int)) = true := by simp; omega
        have hdk : decide (j < (edL n).length) = true := by simp; omega
        obtain ⟨pa', pc', hv, hE⟩ := Ps.of_own HCS.out.prs
        cases hv
        obtain ⟨pb, rfl, hpl, c0, c1⟩ := hE j hjl
        have hmem := getP_mem hjl
        have HTK := hid (takeP _ _ hjl)
        have hnt := nd_take (edL_nodup n) hjl
        generalize (edL n).getD j (0, 0) = p at *
        have HBa := hid ((Below.refl wi.heap.size wi).alloc (Nat.le_refl _) (.cells #[.int .i64 (p.1 : Int), .int .i64 (p.2 : Int)] 104))
        have HCa := hid (HCS.out.below HBa.out)
        have HKT := hid (fun q (hq : q ∈ (edL n).take j) => HKE.out q (List.mem_of_mem_take hq))
        have HKP := hid (HKE.out p hmem)
        have HNT := hid hnt
        clear hE hnt
        go_wp2_with (at_mapUpdate; refine wp_store _ rfl _ _ _ 102 rfl 104 4 pairKey Tryz.underlying102 mp _ rfl HCa.out.map HKT.out p rfl rfl HKP.out ?_)
        intro w3 hm3 hw3
        have HC3 := hid (HCa.out.mapped hgl hm3 hw3)
        have HPT := hid (show putP ((edL n).take j) p = (edL n).take (j + 1) by rw [putP, if_neg HNT.out, HTK.out])
        clear hm3 hw3
        go_wp2_with fail
        go_roundw
        case rel => exact ⟨j + 1, by omega, by go_num, by rw [← HPT.out]; exact HC3⟩
        case measure => simp [intOf]; omega
      · obtain rfl : j = (edL n).length := by omega
        have hdj : decide (((edL n).length : Int) < ((edL n).length : Int)) = false := by simp
        have HCL := hid (show CS w wi g mp n (R, []) (.slice none 0 0) (.slice pa (edL n).length pc) (edL n) by
          have := HCS.out
          rw [List.take_length] at this
          exact this)
        obtain ⟨wl, rfl⟩ : ∃ wl : World, wl = wi := ⟨_, rfl⟩
        obtain ⟨s, hs⟩ : ∃ s : ClS, s = (R, []) := ⟨_, rfl⟩
        obtain ⟨t, HSQ⟩ : ∃ t, Hid (itr n (R, []) t = s) := ⟨0, hid (by rw [hs]; rfl)⟩
        obtain ⟨l, hl⟩ : ∃ l, l = edL n := ⟨_, rfl⟩
        have HOKs : Hid (OkR n s.1) := hid (by rw [hs]; exact HOK.out)
        have HIV : Hid (InvL n s.1 l) := hid (by rw [hl]; exact InvL.all n s.1)
        have HCSs : Hid (CS w wl g mp n s (.slice none 0 0) (.slice pa (edL n).length pc) l) := hid (by rw [hs, hl]; exact HCL.out)
        clear hs hl HCL HCS
        go_wp2_with fail
        go_step3
        go_wp2_with fail
        go_loopw [5, 31] (fun v a wr => ∃ (j : Nat) (s1 : ClS) (l1 : List (Nat × Nat)), j ≤ (edL n).length ∧ a = .int .i64 j ∧ Hid (PassI n s s1 l1 j) ∧ Hid (OkR n s1.1) ∧ Hid (CS w wr g mp n s1 v (.slice pa (edL n).length pc) l1)) (fun _ a _ => (edL n).length - (intOf a).toNat)
        case atStart => exact ⟨0, s, l, by omega, rfl, hid (PassI.start HIV.out), HOKs, HCSs⟩
        case round =>
          obtain ⟨j, s1, l1, hj, rfl, HP, HO1, HC1⟩ := hrel
          try clear HS
          obtain ⟨wi, rfl⟩ : ∃ wi : World, wi = wr := ⟨_, rfl⟩
          by_cases hjl : j < (edL n).length
          · have hdj : decide ((j : Int) < ((edL n).length : Int)) = true := by simp; omega
            have hdk : decide (j < (edL n).length) = true := by simp; omega
            obtain ⟨pa', pc', hv, hE⟩ := Ps.of_own HC1.out.prs
            cases hv
            obtain ⟨pb, rfl, hpl, c0, c1⟩ := hE j hjl
            have hmem := getP_mem hjl
            have hp12 := edL_mem.1 hmem
            have HKP := hid (HKE.out _ hmem)
            have HKL := hid (fun q (hq : q ∈ l1) => HKE.out q (HP.out.inv.sub q hq))
            have HSK := hid (fun h => HP.out.skip hjl h)
            have HST := hid (fun h => HP.out.still HO1.out hjl h)
            have HCH := hid (fun h => HP.out.change HO1.out hjl h)
            have HNL := hid HP.out.inv.nod
            have HSB := hid HP.out.inv.sub
            have HNO := hid (narF_ok HO1.out (Nat.lt_trans hp12.1 hp12.2) hp12.2 (Nat.ne_of_lt hp12.1) n)
            have HQT := hid (fun h => (narF_quiet (s := s1) (i := ((edL n).getD j (0, 0)).1) (k := ((edL n).getD j (0, 0)).2) (m := n) h).1)
            have HLE : Hid ((narF s1 ((edL n).getD j (0, 0)).1 ((edL n).getD j (0, 0)).2 n).2.length ≤ 122865) := hid (by
              have m1 := narF_mu (n := n) s1 hp12.1 hp12.2 n
              have m2 := passL_mu (n := n) (l := (edL n).take j) s (fun q hq => ed_in n q (List.mem_of_mem_take hq))
              rw [← HP.out.st] at m2
              have m3 := itr_mu (n := n) (R, []) t
              rw [HSQ.out] at m3
              have m4 := HMU.out
              have m3 : s.2.length + mu n s.1 ≤ 0 + mu n R := m3
              omega)
            generalize (edL n).getD j (0, 0) = p at *
            have HBa := hid ((Below.refl wi.heap.size wi).alloc (Nat.le_refl _) (.cells #[.int .i64 (p.1 : Int), .int .i64 (p.2 : Int)] 104))
            have HCa := hid (HC1.out.below HBa.out)
            have HPa := hid (PV.made wi p)
            have hwx := HC1.out.wrt.size
            clear hE HP
            go_upto_region 12 with fail
            clear c0 c1 hpl
            generalize wi.heap.size = x at *
            generalize wi.alloc (.cells #[.int .i64 (p.1 : Int), .int .i64 (p.2 : Int)] 104) = wa at *
            have x0 := HPa.out.c0
            have x1 := HPa.out.c1
            have hxl := HPa.out.lt
            by_cases hpl1 : p ∈ l1
            · have HDP := hid (decide_eq_true hpl1)
              clear hpl1
              go_wp2_with (first | (at_lookup; refine wp_look _ rfl _ _ 102 rfl 104 4 pairKey Tryz.underlying102 (zeroBool _) mp l1 rfl HCa.out.map HKL.out p rfl HKP.out ?_; rw [HDP.out]) | (at_delete; refine wp_drop _ rfl _ _ 102 104 rfl 4 pairKey Tryz.underlying102 mp l1 HNL.out rfl HCa.out.map HKL.out p rfl HKP.out ?_))
              intro w2 hm2 hw2
              have HC2 := hid (HCa.out.mapped hgl hm2 hw2)
              have HP2 := hid (HPa.out.map hw2 HCa.out.map)
              have x0 := HP2.out.c0
              have x1 := HP2.out.c1
              have hxl := HP2.out.lt
              have hw2s := hw2.size
              clear hm2 hw2 HCa HPa
              have HCd := hid (show TC w2 o from fun y hy => (HC2.out.wrt.cell ho hog).trans (HC.out y hy))
              go_wp2_with fail
              (with_reducible refine (narrow_any o g n s1.1 HO1.out p.1 p.2 hp12.1 hp12.2 w2 (tb_wr HT.out HC2.out.wrt hgT) HCd.out (Nat.lt_of_lt_of_le ho HC2.out.wrt.size) hog HC2.out.nb).mono ?_)
              rintro e w3 ⟨⟨v3, rfl, hown3⟩, hn3, hw3⟩
              obtain ⟨ca, cc, rfl⟩ := own_slc hown3
              have HNS := hid (nar_split s1 p.1 p.2 n)
              generalize narF (s1.1, []) p.1 p.2 n = q3 at *
              obtain ⟨R3, ch⟩ := q3
              have HC3 := hid (HC2.out.wrote hgl hn3 hw3)
              have hxg : x ≠ g := by omega
              have HP3 := hid (HP2.out.wr hw3 hxg)
              have x0 := HP3.out.c0
              have x1 := HP3.out.c1
              have hxl := HP3.out.lt
              have HO3 := hid hown3
              have hw3s := HC2.out.wrt.size
              clear hown3 hn3 hw3 HC2 HP2
              by_cases hch : ch.length = 0
              · have hdz : ((ch.length : Int) == 0) = true := by rw [hch]; rfl
                have hch' : ch = [] := List.eq_nil_of_length_eq_zero hch
                have HEQ : Hid ((R3, s1.2) = s1) := hid (by
                  have h1 := HNS.out
                  rw [hch', List.append_nil] at h1
                  have h2 := HQT.out (by rw [h1])
                  rw [← h1]; exact h2)
                have HPN := hid (HST.out (by rw [HNS.out]; show (s1.2 ++ ch).length = s1.2.length; rw [hch', List.append_nil]))
                subst hch'
                go_wp2_with fail
                go_roundw
                case rel => exact ⟨j + 1, s1, l1.erase p, by omega, by go_num, HPN, HO1, by have := HC3.out; rw [HEQ.out] at this; exact hid this⟩
                case measure => simp [intOf]; omega
              · have hdz : ((ch.length : Int) == 0) = false := by rw [beq_eq_false_iff_ne]; omega
                obtain ⟨cg, rfl, hcg⟩ := own_some HO3.out hch
                have HPN : Hid (PassI n s (R3, s1.2 ++ ch) (addB (edL n) p (l1.erase p)) (j + 1)) := hid (by
                  have := HCH.out (by rw [HNS.out]; show ¬ (s1.2 ++ ch).length = s1.2.length; rw [List.length_append]; omega)
                  rw [HNS.out] at this
                  exact this)
                have HO4 : Hid (OkR n R3) := hid (by have := HNO.out; rw [HNS.out] at this; exact this)
                have hln : s1.2.length + ch.length ≤ 122865 := by
                  have := HLE.out
                  rw [HNS.out] at this
                  have this : (s1.2 ++ ch).length ≤ 122865 := this
                  rw [List.length_append] at this
                  exact this
                go_wp2_with (at_builtin; refine wpList_append_own _ rfl _ _ 54 rfl w.heap.size 122 j0 _ 4 32 Tryz.underlying54 hj0 hz0 hz1 hz2 rfl (by decide) _ _ _ rfl HC3.out.own ⟨cg, 0, none⟩ ch.length cc (stpC ch) rfl (stpC_len ch) (HO3.out.cells rfl) (stpC_one ch) ?c3 ?c4 ?c5 ?_)
                case c3 => show s1.2.length + ch.length ≤ maxLen; unfold maxLen; omega
                case c4 => show (s1.2.length + ch.length) * 32 ≤ 140737488355328; omega
                case c5 => exact HC3.out.wrt.size
                intro v4 w4 hown4 hgr _
                have HC4 := hid (HC3.out.grown hgl hown4 hgr)
                have HP4 : Hid (PV w4 x p) := hid ((hgr.block x hxl (pv_own HP3.out HC3.out.own)).trans HP3.out)
                clear hown4 hgr HC3 HP3 HO3 x0 x1
                go_wp2_with fail
                have HC40 : Hid (CS w w4 g mp n (R3, s1.2 ++ ch) v4 (.slice (some ⟨pb, 0, none⟩) (edL n).length pc) (addB ((edL n).take 0) p (l1.erase p))) := hid (by rw [List.take_zero]; exact HC4.out)
                clear HC4
                go_loopw [53] (fun a wr => ∃ i : Nat, i ≤ (edL n).length ∧ a = .int .i64 i ∧ Hid (CS w wr g mp n (R3, s1.2 ++ ch) v4 (.slice (some ⟨pb, 0, none⟩) (edL n).length pc) (addB ((edL n).take i) p (l1.erase p))) ∧ Hid (PV wr x p)) (fun a _ => (edL n).length - (intOf a).toNat)
                case atStart => exact ⟨0, by omega, rfl, HC40, HP4⟩
                case round =>
                  obtain ⟨i, hi, rfl, HC5, HP5⟩ := hrel
                  try clear HS
                  clear HC40 HP4
                  obtain ⟨wk, rfl⟩ : ∃ wk : World, wk = wr := ⟨_, rfl⟩
                  by_cases hil : i < (edL n).length
                  · have hdj2 : decide ((i : Int) < ((edL n).length : Int)) = true := by simp; omega
                    have hdk2 : decide (i < (edL n).length) = true := by simp; omega
                    obtain ⟨pa', pc', hv, hE⟩ := Ps.of_own HC5.out.prs
                    cases hv
                    obtain ⟨pb', hpb, hpl, c0, c1⟩ := hE i hil
                    cases hpb
                    have hmem2 := getP_mem hil
                    have HKQ := hid (HKE.out _ hmem2)
                    have HTK := hid (takeP _ _ hil)
                    clear hE
                    generalize (edL n).getD i (0, 0) = q at *
                    have HKA := hid (show ∀ u ∈ addB ((edL n).take i) p (l1.erase p), ∃ kl, keyOf Tryz.prog 104 (pvv u) = some kl from fun u hu => HKE.out u ((addB_mem.1 hu).elim (fun h => HSB.out u (List.mem_of_mem_erase h)) (fun h => List.mem_of_mem_take h.1)))
                    have HBb := hid ((Below.refl wk.heap.size wk).alloc (Nat.le_refl _) (.cells #[.int .i64 (q.1 : Int), .int .i64 (q.2 : Int)] 104))
                    have HCb := hid (HC5.out.below HBb.out)
                    have HPb := hid (HP5.out.below HBb.out)
                    have HQb := hid (PV.made wk q)
                    clear HP5
                    go_upto_region 20 with fail
                    clear c0 c1 hpl HC5
                    generalize wk.heap.size = y at *
                    generalize wk.alloc (.cells #[.int .i64 (q.1 : Int), .int .i64 (q.2 : Int)] 104) = wb at *
                    have x0 := HPb.out.c0
                    have x1 := HPb.out.c1
                    have y0 := HQb.out.c0
                    have y1 := HQb.out.c1
                    have hxb := HPb.out.lt
                    have hyb := HQb.out.lt
                    cases hb : besB q p
                    · have HBE := hid (show besB (q.1, q.2) (p.1, p.2) = false from hb)
                      have HAD := hid (show addB ((edL n).take (i + 1)) p (l1.erase p) = addB ((edL n).take i) p (l1.erase p) by rw [HTK.out, addB_snoc, if_neg (by rw [hb]; simp)])
                      clear hb
                      go_wp2_with fail
                      (with_reducible refine (isBeside_any q.1 q.2 p.1 p.2 wb).mono ?_)
                      rintro e w6 ⟨rfl, hb6⟩
                      rw [HBE.out]
                      have HC6 := hid (HCb.out.below hb6)
                      have HP6 := hid (HPb.out.below hb6)
                      clear hb6
                      go_wp2_with fail
                      go_roundw
                      case rel => exact ⟨i + 1, by omega, by go_num, by rw [HAD.out]; exact HC6, HP6⟩
                      case measure => simp [intOf]; omega
                    · have HBE := hid (show besB (q.1, q.2) (p.1, p.2) = true from hb)
                      have HAD := hid (show addB ((edL n).take (i + 1)) p (l1.erase p) = putP (addB ((edL n).take i) p (l1.erase p)) q by rw [HTK.out, addB_snoc, if_pos hb]; rfl)
                      clear hb
                      go_wp2_with fail
                      (with_reducible refine (isBeside_any q.1 q.2 p.1 p.2 wb).mono ?_)
                      rintro e w6 ⟨rfl, hb6⟩
                      rw [HBE.out]
                      have HC6 := hid (HCb.out.below hb6)
                      have HP6 := hid (HPb.out.below hb6)
                      have HQ6 := hid (HQb.out.below hb6)
                      have y0 := HQ6.out.c0
                      have y1 := HQ6.out.c1
                      clear hb6
                      go_wp2_with (at_mapUpdate; refine wp_store _ rfl _ _ _ 102 rfl 104 4 pairKey Tryz.underlying102 mp _ rfl HC6.out.map HKA.out q rfl rfl HKQ.out ?_)
                      intro w7 hm7 hw7
                      have HC7 := hid (HC6.out.mapped hgl hm7 hw7)
                      have HP7 := hid (HP6.out.map hw7 HC6.out.map)
                      clear hm7 hw7
                      go_wp2_with fail
                      go_roundw
                      case rel => exact ⟨i + 1, by omega, by go_num, by rw [HAD.out]; exact HC7, HP7⟩
                      case measure => simp [intOf]; omega
                  · obtain rfl : i = (edL n).length := by omega
                    have hdj2 : decide (((edL n).length : Int) < ((edL n).length : Int)) = false := by simp
                    have HCN := hid (show CS w wk g mp n (R3, s1.2 ++ ch) v4 (.slice (some ⟨pb, 0, none⟩) (edL n).length pc) (addB (edL n) p (l1.erase p)) by
                      have := HC5.out
                      rw [List.take_length] at this
                      exact this)
                    clear HC5
                    go_wp2_with fail
                    go_roundw
                    case rel => exact ⟨j + 1, (R3, s1.2 ++ ch), addB (edL n) p (l1.erase p), by omega, by go_num, HPN, HO4, HCN⟩
                    case measure => simp [intOf]; omega
            · have HDP := hid (decide_eq_false hpl1)
              have HPN := hid (HSK.out hpl1)
              clear hpl1
              go_wp2_with (at_lookup; refine wp_look _ rfl _ _ 102 rfl 104 4 pairKey Tryz.underlying102 (zeroBool _) mp l1 rfl HCa.out.map HKL.out p rfl HKP.out ?_; rw [HDP.out])
              go_roundw
              case rel => exact ⟨j + 1, s1, l1, by omega, by go_num, HPN, HO1, HCa⟩
              case measure => simp [intOf]; omega
          · obtain rfl : j = (edL n).length := by omega
            have hdj : decide (((edL n).length : Int) < ((edL n).length : Int)) = false := by simp
            by_cases hl1 : l1 = []
            · subst hl1
              obtain ⟨e1, e2⟩ := HP.out.done
              have HCl := hid (Cl.is (n := n) (R := R) (R' := s1.1) (nt := s1.2) ⟨⟨t + 1, (show passL n (itr n (R, []) t) (edL n) = s1 by rw [HSQ.out]; exact e1.symm)⟩, e2⟩)
              clear e1 e2
              go_wp2_with (at_len; refine wp_count _ rfl _ 102 rfl 104 4 Tryz.underlying102 mp [] rfl HC1.out.map ?_)
              simp only [Exit.jump]
              go_ret
              exact ⟨⟨_, rfl, by have := HC1.out.own; rw [HCl.out.2] at this; exact this⟩, by have := HC1.out.nb; rw [HCl.out.1] at this; exact this, HC1.out.wrt⟩
            · obtain ⟨e1, e2, e3⟩ := HP.out.more hl1
              have hl2 : 0 < l1.length := List.length_pos_iff.2 hl1
              have hdg : decide ((0 : Int) < (l1.length : Int)) = true := by simp; omega
              have hdh : decide ((l1.length : Int) > 0) = true := by simp; omega
              have hdi : decide (0 < l1.length) = true := by simp; omega
              have HLB := hid (show LB w wi o g mp n R _ _ from ⟨t + 1, s1, l1, (show passL n (itr n (R, []) t) (edL n) = s1 by rw [HSQ.out]; exact e1.symm), HO1.out, HC1.out, e2⟩)
              have HMM : Hid (muW g n wi < muW g n wl) := hid (by rw [muW_eq h6 HC1.out.nb, muW_eq h6 HCSs.out.nb]; exact e3)
              clear e1 e2 e3
              go_wp2_with (at_len; refine wp_count _ rfl _ 102 rfl 104 4 Tryz.underlying102 mp l1 rfl HC1.out.map ?_)
              go_step3
              refine @And.intro _ _ rfl ?_
              first
                | (refine @And.intro _ _ ?_ HMM.out
                   unfold JF
                   exact ⟨mp, _, _, _, _, _, _, _, _, _, _, _, _, _, _, _, _, _, _, _, _, _, _, _, _, _, _, _, _, _, _, _, _, _, _, _, _, _, _, _, _, _, _, _, _, _, _, _, _, _, _, _, _, _, _, _, _, _, _, _, _, _, _, _, _, rfl, HLB.out⟩)
                | (unfold JF
                   exact ⟨mp, _, _, _, _, _, _, _, _, _, _, _, _, _, _, _, _, _, _, _, _, _, _, _, _, _, _, _, _, _, _, _, _, _, _, _, _, _, _, _, _, _, _, _, _, _, _, _, _, _, _, _, _, _, _, _, _, _, _, _, _, _, _, _, _, rfl, HLB.out⟩)
  · intro a' w' hJ
    obtain ⟨mp, v, pv, e2, e3, e8, e9, e10, e11, e12, e13, e14, e15, e16, e17, e18, e19, e20, e21, e22, e23, e24, e25, e26, e27, e28, e29, e30, e31, e32, e33, e34, e35, e36, e37, e38, e39, e40, e41, e42, e43, e44, e45, e46, e47, e48, e49, e50, e51, e52, e53, e54, e55, e56, e57, e58, e59, e60, e61, e62, e63, e64, e65, e66, e67, ha, t, s, l, hst, hok, hcs, hiv⟩ := hJ
    subst ha
    obtain ⟨pa, pc, rfl⟩ := own_slc hcs.prs
    obtain ⟨wl, rfl⟩ : ∃ wl : World, wl = w' := ⟨_, rfl⟩
    have HSQ := hid hst
    have HOKs := hid hok
    have HCSs := hid hcs
    have HIV := hid hiv
    clear hst hok hcs hiv
    go_wp2_with fail
    go_loopw [5, 31] (fun v a wr => ∃ (j : Nat) (s1 : ClS) (l1 : List (Nat × Nat)), j ≤ (edL n).length ∧ a = .int .i64 j ∧ Hid (PassI n s s1 l1 j) ∧ Hid (OkR n s1.1) ∧ Hid (CS w wr g mp n s1 v (.slice pa (edL n).length pc) l1)) (fun _ a _ => (edL n).length - (intOf a).toNat)
    case atStart => exact ⟨0, s, l, by omega, rfl, hid (PassI.start HIV.out), HOKs, HCSs⟩
    case round =>
      obtain ⟨j, s1, l1, hj, rfl, HP, HO1, HC1⟩ := hrel
      try clear HS
      obtain ⟨wi, rfl⟩ : ∃ wi : World, wi = wr := ⟨_, rfl⟩
      by_cases hjl : j < (edL n).length
      · have hdj : decide ((j : Int) < ((edL n).length : Int)) = true := by simp; omega
        have hdk : decide (j < (edL n).length) = true := by simp; omega
        obtain ⟨pa', pc', hv, hE⟩ := Ps.of_own HC1.out.prs
        cases hv
        obtain ⟨pb, rfl, hpl, c0, c1⟩ := hE j hjl
        have hmem := getP_mem hjl
        have hp12 := edL_mem.1 hmem
        have HKP := hid (HKE.out _ hmem)
        have HKL := hid (fun q (hq : q ∈ l1) => HKE.out q (HP.out.inv.sub q hq))
        have HSK := hid (fun h => HP.out.skip hjl h)
        have HST := hid (fun h => HP.out.still HO1.out hjl h)
        have HCH := hid (fun h => HP.out.change HO1.out hjl h)
        have HNL := hid HP.out.inv.nod
        have HSB := hid HP.out.inv.sub
        have HNO := hid (narF_ok HO1.out (Nat.lt_trans hp12.1 hp12.2) hp12.2 (Nat.ne_of_lt hp12.1) n)
        have HQT := hid (fun h => (narF_quiet (s := s1) (i := ((edL n).getD j (0, 0)).1) (k := ((edL n).getD j (0, 0)).2) (m := n) h).1)
        have HLE : Hid ((narF s1 ((edL n).getD j (0, 0)).1 ((edL n).getD j (0, 0)).2 n).2.length ≤ 122865) := hid (by
          have m1 := narF_mu (n := n) s1 hp12.1 hp12.2 n
          have m2 := passL_mu (n := n) (l := (edL n).take j) s (fun q hq => ed_in n q (List.mem_of_mem_take hq))
          rw [← HP.out.st] at m2
          have m3 := itr_mu (n := n) (R, []) t
          rw [HSQ.out] at m3
          have m4 := HMU.out
          have m3 : s.2.length + mu n s.1 ≤ 0 + mu n R := m3
          omega)
        generalize (edL n).getD j (0, 0) = p at *
        have HBa := hid ((Below.refl wi.heap.size wi).alloc (Nat.le_refl _) (.cells #[.int .i64 (p.1 : Int), .int .i64 (p.2 : Int)] 104))
        have HCa := hid (HC1.out.below HBa.out)
        have HPa := hid (PV.made wi p)
        have hwx := HC1.out.wrt.size
        clear hE HP
        go_upto_region 12 with fail
        clear c0 c1 hpl
        generalize wi.heap.size = x at *
        generalize wi.alloc (.cells #[.int .i64 (p.1 : Int), .int .i64 (p.2 : Int)] 104) = wa at *
        have x0 := HPa.out.c0
        have x1 := HPa.out.c1
        have hxl := HPa.out.lt
        by_cases hpl1 : p ∈ l1
        · have HDP := hid (decide_eq_true hpl1)
          clear hpl1
          go_wp2_with (first | (at_lookup; refine wp_look _ rfl _ _ 102 rfl 104 4 pairKey Tryz.underlying102 (zeroBool _) mp l1 rfl HCa.out.map HKL.out p rfl HKP.out ?_; rw [HDP.out]) | (at_delete; refine wp_drop _ rfl _ _ 102 104 rfl 4 pairKey Tryz.underlying102 mp l1 HNL.out rfl HCa.out.map HKL.out p rfl HKP.out ?_))
          intro w2 hm2 hw2
          have HC2 := hid (HCa.out.mapped hgl hm2 hw2)
          have HP2 := hid (HPa.out.map hw2 HCa.out.map)
          have x0 := HP2.out.c0
          have x1 := HP2.out.c1
          have hxl := HP2.out.lt
          have hw2s := hw2.size
          clear hm2 hw2 HCa HPa
          have HCd := hid (show TC w2 o from fun y hy => (HC2.out.wrt.cell ho hog).trans (HC.out y hy))
          go_wp2_with fail
          (with_reducible refine (narrow_any o g n s1.1 HO1.out p.1 p.2 hp12.1 hp12.2 w2 (tb_wr HT.out HC2.out.wrt hgT) HCd.out (Nat.lt_of_lt_of_le ho HC2.out.wrt.size) hog HC2.out.nb).mono ?_)
          rintro e w3 ⟨⟨v3, rfl, hown3⟩, hn3, hw3⟩
          obtain ⟨ca, cc, rfl⟩ := own_slc hown3
          have HNS := hid (nar_split s1 p.1 p.2 n)
          generalize narF (s1.1, []) p.1 p.2 n = q3 at *
          obtain ⟨R3, ch⟩ := q3
          have HC3 := hid (HC2.out.wrote hgl hn3 hw3)
          have hxg : x ≠ g := by omega
          have HP3 := hid (HP2.out.wr hw3 hxg)
          have x0 := HP3.out.c0
          have x1 := HP3.out.c1
          have hxl := HP3.out.lt
          have HO3 := hid hown3
          have hw3s := HC2.out.wrt.size
          clear hown3 hn3 hw3 HC2 HP2
          by_cases hch : ch.length = 0
          · have hdz : ((ch.length : Int) == 0) = true := by rw [hch]; rfl
            have hch' : ch = [] := List.eq_nil_of_length_eq_zero hch
            have HEQ : Hid ((R3, s1.2) = s1) := hid (by
              have h1 := HNS.out
              rw [hch', List.append_nil] at h1
              have h2 := HQT.out (by rw [h1])
              rw [← h1]; exact h2)
            have HPN := hid (HST.out (by rw [HNS.out]; show (s1.2 ++ ch).length = s1.2.length; rw [hch', List.append_nil]))
            subst hch'
            go_wp2_with fail
            go_roundw
            case rel => exact ⟨j + 1, s1, l1.erase p, by omega, by go_num, HPN, HO1, by have := HC3.out; rw [HEQ.out] at this; exact hid this⟩
            case measure => simp [intOf]; omega
          · have hdz : ((ch.length : Int) == 0) = false := by rw [beq_eq_false_iff_ne]; omega
            obtain ⟨cg, rfl, hcg⟩ := own_some HO3.out hch
            have HPN : Hid (PassI n s (R3, s1.2 ++ ch) (addB (edL n) p (l1.erase p)) (j + 1)) := hid (by
              have := HCH.out (by rw [HNS.out]; show ¬ (s1.2 ++ ch).length = s1.2.length; rw [List.length_append]; omega)
              rw [HNS.out] at this
              exact this)
            have HO4 : Hid (OkR n R3) := hid (by have := HNO.out; rw [HNS.out] at this; exact this)
            have hln : s1.2.length + ch.length ≤ 122865 := by
              have := HLE.out
              rw [HNS.out] at this
              have this : (s1.2 ++ ch).length ≤ 122865 := this
              rw [List.length_append] at this
              exact this
            go_wp2_with (at_builtin; refine wpList_append_own _ rfl _ _ 54 rfl w.heap.size 122 j0 _ 4 32 Tryz.underlying54 hj0 hz0 hz1 hz2 rfl (by decide) _ _ _ rfl HC3.out.own ⟨cg, 0, none⟩ ch.length cc (stpC ch) rfl (stpC_len ch) (HO3.out.cells rfl) (stpC_one ch) ?c3 ?c4 ?c5 ?_)
            case c3 => show s1.2.length + ch.length ≤ maxLen; unfold maxLen; omega
            case c4 => show (s1.2.length + ch.length) * 32 ≤ 140737488355328; omega
            case c5 => exact HC3.out.wrt.size
            intro v4 w4 hown4 hgr _
            have HC4 := hid (HC3.out.grown hgl hown4 hgr)
            have HP4 : Hid (PV w4 x p) := hid ((hgr.block x hxl (pv_own HP3.out HC3.out.own)).trans HP3.out)
            clear hown4 hgr HC3 HP3 HO3 x0 x1
            go_wp2_with fail
            have HC40 : Hid (CS w w4 g mp n (R3, s1.2 ++ ch) v4 (.slice (some ⟨pb, 0, none⟩) (edL n).length pc) (addB ((edL n).take 0) p (l1.erase p))) := hid (by rw [List.take_zero]; exact HC4.out)
            clear HC4
            go_loopw [53] (fun a wr => ∃ i : Nat, i ≤ (edL n).length ∧ a = .int .i64 i ∧ Hid (CS w wr g mp n (R3, s1.2 ++ ch) v4 (.slice (some ⟨pb, 0, none⟩) (edL n).length pc) (addB ((edL n).take i) p (l1.erase p))) ∧ Hid (PV wr x p)) (fun a _ => (edL n).length - (intOf a).toNat)
            case atStart => exact ⟨0, by omega, rfl, HC40, HP4⟩
            case round =>
              obtain ⟨i, hi, rfl, HC5, HP5⟩ := hrel
              try clear HS
              clear HC40 HP4
              obtain ⟨wk, rfl⟩ : ∃ wk : World, wk = wr := ⟨_, rfl⟩
              by_cases hil : i < (edL n).length
              · have hdj2 : decide ((i : Int) < ((edL n).length : Int)) = true := by simp; omega
                have hdk2 : decide (i < (edL n).length) = true := by simp; omega
                obtain ⟨pa', pc', hv, hE⟩ := Ps.of_own HC5.out.prs
                cases hv
                obtain ⟨pb', hpb, hpl, c0, c1⟩ := hE i hil
                cases hpb
                have hmem2 := getP_mem hil
                have HKQ := hid (HKE.out _ hmem2)
                have HTK := hid (takeP _ _ hil)
                clear hE
                generalize (edL n).getD i (0, 0) = q at *
                have HKA := hid (show ∀ u ∈ addB ((edL n).take i) p (l1.erase p), ∃ kl, keyOf Tryz.prog 104 (pvv u) = some kl from fun u hu => HKE.out u ((addB_mem.1 hu).elim (fun h => HSB.out u (List.mem_of_mem_erase h)) (fun h => List.mem_of_mem_take h.1)))
                have HBb := hid ((Below.refl wk.heap.size wk).alloc (Nat.le_refl _) (.cells #[.int .i64 (q.1 : Int), .int .i64 (q.2 : Int)] 104))
                have HCb := hid (HC5.out.below HBb.out)
                have HPb := hid (HP5.out.below HBb.out)
                have HQb := hid (PV.made wk q)
                clear HP5
                go_upto_region 20 with fail
                clear c0 c1 hpl HC5
                generalize wk.heap.size = y at *
                generalize wk.alloc (.cells #[.int .i64 (q.1 : Int), .int .i64 (q.2 : Int)] 104) = wb at *
                have x0 := HPb.out.c0
                have x1 := HPb.out.c1
                have y0 := HQb.out.c0
                have y1 := HQb.out.c1
                have hxb := HPb.out.lt
                have hyb := HQb.out.lt
                cases hb : besB q p
                · have HBE := hid (show besB (q.1, q.2) (p.1, p.2) = false from hb)
                  have HAD := hid (show addB ((edL n).take (i + 1)) p (l1.erase p) = addB ((edL n).take i) p (l1.erase p) by rw [HTK.out, addB_snoc, if_neg (by rw [hb]; simp)])
                  clear hb
                  go_wp2_with fail
                  (with_reducible refine (isBeside_any q.1 q.2 p.1 p.2 wb).mono ?_)
                  rintro e w6 ⟨rfl, hb6⟩
                  rw [HBE.out]
                  have HC6 := hid (HCb.out.below hb6)
                  have HP6 := hid (HPb.out.below hb6)
                  clear hb6
                  go_wp2_with fail
                  go_roundw
                  case rel => exact ⟨i + 1, by omega, by go_num, by rw [HAD.out]; exact HC6, HP6⟩
                  case measure => simp [intOf]; omega
                · have HBE := hid (show besB (q.1, q.2) (p.1, p.2) = true from hb)
                  have HAD := hid (show addB ((edL n).take (i + 1)) p (l1.erase p) = putP (addB ((edL n).take i) p (l1.erase p)) q by rw [HTK.out, addB_snoc, if_pos hb]; rfl)
                  clear hb
                  go_wp2_with fail
                  (with_reducible refine (isBeside_any q.1 q.2 p.1 p.2 wb).mono ?_)
                  rintro e w6 ⟨rfl, hb6⟩
                  rw [HBE.out]
                  have HC6 := hid (HCb.out.below hb6)
                  have HP6 := hid (HPb.out.below hb6)
                  have HQ6 := hid (HQb.out.below hb6)
                  have y0 := HQ6.out.c0
                  have y1 := HQ6.out.c1
                  clear hb6
                  go_wp2_with (at_mapUpdate; refine wp_store _ rfl _ _ _ 102 rfl 104 4 pairKey Tryz.underlying102 mp _ rfl HC6.out.map HKA.out q rfl rfl HKQ.out ?_)
                  intro w7 hm7 hw7
                  have HC7 := hid (HC6.out.mapped hgl hm7 hw7)
                  have HP7 := hid (HP6.out.map hw7 HC6.out.map)
                  clear hm7 hw7
                  go_wp2_with fail
                  go_roundw
                  case rel => exact ⟨i + 1, by omega, by go_num, by rw [HAD.out]; exact HC7, HP7⟩
                  case measure => simp [intOf]; omega
              · obtain rfl : i = (edL n).length := by omega
                have hdj2 : decide (((edL n).length : Int) < ((edL n).length : Int)) = false := by simp
                have HCN := hid (show CS w wk g mp n (R3, s1.2 ++ ch) v4 (.slice (some ⟨pb, 0, none⟩) (edL n).length pc) (addB (edL n) p (l1.erase p)) by
                  have := HC5.out
                  rw [List.take_length] at this
                  exact this)
                clear HC5
                go_wp2_with fail
                go_roundw
                case rel => exact ⟨j + 1, (R3, s1.2 ++ ch), addB (edL n) p (l1.erase p), by omega, by go_num, HPN, HO4, HCN⟩
                case measure => simp [intOf]; omega
        · have HDP := hid (decide_eq_false hpl1)
          have HPN := hid (HSK.out hpl1)
          clear hpl1
          go_wp2_with (at_lookup; refine wp_look _ rfl _ _ 102 rfl 104 4 pairKey Tryz.underlying102 (zeroBool _) mp l1 rfl HCa.out.map HKL.out p rfl HKP.out ?_; rw [HDP.out])
          go_roundw
          case rel => exact ⟨j + 1, s1, l1, by omega, by go_num, HPN, HO1, HCa⟩
          case measure => simp [intOf]; omega
      · obtain rfl : j = (edL n).length := by omega
        have hdj : decide (((edL n).length : Int) < ((edL n).length : Int)) = false := by simp
        by_cases hl1 : l1 = []
        · subst hl1
          obtain ⟨e1, e2⟩ := HP.out.done
          have HCl := hid (Cl.is (n := n) (R := R) (R' := s1.1) (nt := s1.2) ⟨⟨t + 1, (show passL n (itr n (R, []) t) (edL n) = s1 by rw [HSQ.out]; exact e1.symm)⟩, e2⟩)
          clear e1 e2
          go_wp2_with (at_len; refine wp_count _ rfl _ 102 rfl 104 4 Tryz.underlying102 mp [] rfl HC1.out.map ?_)
          simp only [Exit.jump]
          go_ret
          exact ⟨⟨_, rfl, by have := HC1.out.own; rw [HCl.out.2] at this; exact this⟩, by have := HC1.out.nb; rw [HCl.out.1] at this; exact this, HC1.out.wrt⟩
        · obtain ⟨e1, e2, e3⟩ := HP.out.more hl1
          have hl2 : 0 < l1.length := List.length_pos_iff.2 hl1
          have hdg : decide ((0 : Int) < (l1.length : Int)) = true := by simp; omega
          have hdh : decide ((l1.length : Int) > 0) = true := by simp; omega
          have hdi : decide (0 < l1.length) = true := by simp; omega
          have HLB := hid (show LB w wi o g mp n R _ _ from ⟨t + 1, s1, l1, (show passL n (itr n (R, []) t) (edL n) = s1 by rw [HSQ.out]; exact e1.symm), HO1.out, HC1.out, e2⟩)
          have HMM : Hid (muW g n wi < muW g n wl) := hid (by rw [muW_eq h6 HC1.out.nb, muW_eq h6 HCSs.out.nb]; exact e3)
          clear e1 e2 e3
          go_wp2_with (at_len; refine wp_count _ rfl _ 102 rfl 104 4 Tryz.underlying102 mp l1 rfl HC1.out.map ?_)
          go_step3
          refine @And.intro _ _ rfl ?_
          first
            | (refine @And.intro _ _ ?_ HMM.out
               unfold JF
               exact ⟨mp, _, _, _, _, _, _, _, _, _, _, _, _, _, _, _, _, _, _, _, _, _, _, _, _, _, _, _, _, _, _, _, _, _, _, _, _, _, _, _, _, _, _, _, _, _, _, _, _, _, _, _, _, _, _, _, _, _, _, _, _, _, _, _, _, rfl, HLB.out⟩)
            | (unfold JF
               exact ⟨mp, _, _, _, _, _, _, _, _, _, _, _, _, _, _, _, _, _, _, _, _, _, _, _, _, _, _, _, _, _, _, _, _, _, _, _, _, _, _, _, _, _, _, _, _, _, _, _, _, _, _, _, _, _, _, _, _, _, _, _, _, _, _, _, _, rfl, HLB.out⟩)
end
end Go.Proofs.YtlmmjdaipedjjaaGreatDoor.C
