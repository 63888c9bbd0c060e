/- The model's sorting of numbers. -/
import Derived.Test.YtmdgkhebefnfeabSrtP
import Derived.Test.YtmdgkhebefnfeabTis
import Derived.Test.YtmdgkhebefnfeabFac
import Derived.Deep.RegionHeld3
import Derived.Deep.AppendLies
import Derived.Deep.RegionLaw
import Derived.Deep.QuietTactic
import Derived.BigQuiet
import Derived.Laws.AppendOwn
import Derived.OwnWalk
namespace Go.Proofs.Ytmdgkhebefnfeab.C
open Go.RowKit
set_option linter.unusedVariables false
set_option linter.unusedSimpArgs false
/-- append of some or no values that lie somewhere, as one step of a region that draws -/
theorem step_append_any {P : Program} {w : World} {ops : Array Oper} {o : Oper} {a : Act} {K : Act → World → Prop} {Q : Exit → Act → World → Prop} {E : Prop} (hgd : o.guard = none) (s x : Operand) (t : TypeId)
    (ho : o.op = .call { callee := .builtin .append, args := #[s, x], argTypes := #[t, t] })
    (base : Nat) (e : TypeId) (i : TypeInfo) (z : Value) (size bytes : Nat) (ht : P.underlying t = some (.slice e)) (hi : P.info? e = some i) (hz : i.zero = some z)
    (hsize : i.size = size) (hby : i.bytes = bytes) (hzs : z.cells.size = size) (hsz : 0 < size)
    (g0 n cap0 : Nat) (xs : List Value) (hs : a.eval s = .slice (some ⟨g0, 0, none⟩) n cap0) (hn0 : n ≤ cap0) (hg0 : g0 < w.heap.size) (hown : w.ownsRow base e size (.slice (some ⟨g0, 0, none⟩) n cap0) n xs)
    (ad : Addr) (m c : Nat) (news : List Value) (hx : a.eval x = .slice (some ad) m c) (hl : news.length = m * size) (hnews : ∀ j u, news[j]? = some u → w.cell? (ad.add j) = some u) (h1 : ∀ u ∈ news, u.oneCell' = true)
    (N : Nat) (hN : n + m = N) (zs : List Value) (hZ : xs ++ news = zs) (h63 : n + m ≤ maxLen) (hbytes : (n + m) * bytes ≤ 140737488355328) (hbase : base ≤ w.heap.size) (H : Nat) (hH : w.heap.size = H)
    (h : ∀ g cap w', w'.ownsRow base e size (.slice (some ⟨g, 0, none⟩) N cap) N zs → w.grownBy w' (some g0) → (g0 = g ∨ g = H) → g < w'.heap.size → N ≤ cap → K (a.put o.dst (.slice (some ⟨g, 0, none⟩) N cap)) w') :
    if Region.wanted o (yielded ops a.tmps) = true then Oper.wp P o a w K Q else E := by
  subst hN hZ
  have hcap : ∀ {w' : World} {g cap k : Nat} {ys : List Value}, w'.ownsRow base e size (.slice (some ⟨g, 0, none⟩) k cap) k ys → k ≤ cap := by
    intro w' g cap k ys hh
    rcases hh.2 with ⟨hv, _⟩ | ⟨g', cap', cur, hv, _, _, h1, _⟩
    · cases hv
    · cases hv; exact h1
  rcases Nat.eq_zero_or_pos m with rfl | hm
  · have hnil : news = [] := List.eq_nil_of_length_eq_zero (by rw [hl]; omega)
    subst hnil
    refine step_append_room hgd s x t ho e i size ht hi hsize g0 0 n cap0 hs ad 0 c [] hx (by simp) (fun j u hj => by simp at hj) (fun u hu => by simp at hu) (by omega) (fun j hj => by simp at hj) ?_
    have hset : w.setCells g0 (0 + n * size) [] = w := rfl
    rw [hset]
    exact h g0 cap0 w (by simpa using hown) (World.grownBy.refl _ _) (.inl rfl) hg0 (by omega)
  · refine step_append_lies w hgd s x t ho base e i z size bytes ht hi hz hsize hby hzs hsz _ n xs hs hown ad m c news hx hl hnews h1 hm h63 hbytes hbase H hH ?_
    intro g cap w' q1 q2 q3 q4
    refine h g cap w' q1 q2 ?_ q4 (hcap q1)
    rcases q3 with q3 | q3
    · left
      simpa [Value.ownBlock] using q3
    · exact .inr q3
/-- numbers as cells -/
def ivL (l : List Int) : List Value := l.map fun x => .int .i64 x
theorem ivL_len (l : List Int) : (ivL l).length = l.length := by simp [ivL]
theorem ivL_one (l : List Int) : ∀ u ∈ ivL l, u.oneCell' = true := by
  intro u hu
  simp only [ivL, List.mem_map] at hu
  obtain ⟨x, _, rfl⟩ := hu
  rfl
/-- The numbers l, in a row of its own. -/
structure Oq (B : Nat) (wr : World) (l : List Int) (g cap : Nat) : Prop where
  own : wr.ownsRow B 3 1 (.slice (some ⟨g, 0, none⟩) l.length cap) l.length (ivL l)
  cap : l.length ≤ cap
  lt : g < wr.heap.size
  ge : B ≤ g
theorem Oq.at {B : Nat} {wr : World} {l : List Int} {g cap : Nat} (h : Oq B wr l g cap) {j : Nat} (hj : j < l.length) : wr.cell? ⟨g, j, none⟩ = some (.int .i64 (l.getD j 0)) := by
  have c1 := h.own.cells (g := g) rfl j (.int .i64 (l.getD j 0)) (by
    simp only [ivL, List.getElem?_map, List.getElem?_eq_getElem hj, List.getD_eq_getElem?_getD]; rfl)
  have ha : ∀ j, (⟨g, 0, none⟩ : Addr).add j = ⟨g, j, none⟩ := fun j => by unfold Addr.add; split <;> simp_all
  rw [ha] at c1
  exact c1
theorem Oq.below {B : Nat} {wr wr' : World} {l : List Int} {g cap : Nat} (h : Oq B wr l g cap) (hb : Below wr.heap.size wr wr') : Oq B wr' l g cap where
  own := h.own.kept (row := none) ⟨hb.os, hb.tape, hb.output, hb.size, fun k hk _ => hb.block k hk⟩ (by simp [Value.ownBlock])
  cap := h.cap
  lt := Nat.lt_of_lt_of_le h.lt hb.size
  ge := h.ge
theorem Oq.drewN {B : Nat} {wr : World} {l : List Int} {g cap : Nat} (h : Oq B wr l g cap) (n : Nat) : Oq B (wr.drewN n) l g cap := ⟨h.own, h.cap, h.lt, h.ge⟩
theorem Oq.take {B : Nat} {wr : World} {l : List Int} {g cap : Nat} (h : Oq B wr l g cap) (k : Nat) : ∀ j u, (ivL (l.take k))[j]? = some u → wr.cell? ((⟨g, 0, none⟩ : Addr).add j) = some u := by
  intro j u hu
  have ha : (⟨g, 0, none⟩ : Addr).add j = ⟨g, j, none⟩ := by unfold Addr.add; split <;> simp_all
  rw [ha]
  simp only [ivL, List.getElem?_map, Option.map_eq_some_iff] at hu
  obtain ⟨y, hy, rfl⟩ := hu
  have hy' := List.getElem?_eq_some_iff.1 hy
  obtain ⟨hj, hy'⟩ := hy'
  simp only [List.length_take] at hj
  rw [List.getElem_take] at hy'
  rw [h.at (show j < l.length by omega), List.getD_eq_getElem?_getD, List.getElem?_eq_getElem (show j < l.length by omega), hy']
  rfl
theorem Oq.drop {B : Nat} {wr : World} {l : List Int} {g cap : Nat} (h : Oq B wr l g cap) (k : Nat) : ∀ j u, (ivL (l.drop k))[j]? = some u → wr.cell? ((⟨g, k, none⟩ : Addr).add j) = some u := by
  intro j u hu
  have ha : (⟨g, k, none⟩ : Addr).add j = ⟨g, k + j, none⟩ := by unfold Addr.add; split <;> simp_all
  rw [ha]
  simp only [ivL, List.getElem?_map, Option.map_eq_some_iff] at hu
  obtain ⟨y, hy, rfl⟩ := hu
  have hy' := List.getElem?_eq_some_iff.1 hy
  obtain ⟨hj, hy'⟩ := hy'
  simp only [List.length_drop] at hj
  rw [List.getElem_drop] at hy'
  rw [h.at (show k + j < l.length by omega), List.getD_eq_getElem?_getD, List.getElem?_eq_getElem (show k + j < l.length by omega), hy']
  rfl
theorem ivL_app (a b : List Int) : ivL a ++ ivL b = ivL (a ++ b) := by simp [ivL]
theorem news_of_one {w : World} {b : Nat} {x : Value} (h : w.cell? ⟨b, 0, none⟩ = some x) : ∀ j u, [x][j]? = some u → w.cell? ((⟨b, 0, none⟩ : Addr).add j) = some u := by
  intro j u hu
  have ha : (⟨b, 0, none⟩ : Addr).add j = ⟨b, j, none⟩ := by unfold Addr.add; split <;> simp_all
  rw [ha]
  rcases j with _ | j
  · simp at hu; subst hu; exact h
  · simp at hu
/-- the first numbers of a list -/
def fstZ (f : Nat → Int) (n : Nat) : List Int := (List.range n).map f
theorem fstZ_succ (f : Nat → Int) (n : Nat) : fstZ f (n + 1) = fstZ f n ++ [f n] := by simp [fstZ, List.range_succ]
theorem fstZ_len (f : Nat → Int) (n : Nat) : (fstZ f n).length = n := by simp [fstZ]
theorem srt_next (f : Nat → Int) (n : Nat) : srt (fstZ f (n + 1)) = insX (srt (fstZ f n)) (f n) := by rw [fstZ_succ, srt_snoc]
theorem own_blw {w w' : World} {base e size n : Nat} {v : Value} {xs : List Value} (h : w.ownsRow base e size v n xs) (hb : Below w.heap.size w w') : w'.ownsRow base e size v n xs :=
  h.kept (row := none) ⟨hb.os, hb.tape, hb.output, hb.size, fun k hk _ => hb.block k hk⟩ (by cases hv : v.ownBlock <;> simp)
theorem srlInfo : (Try.prog.info? 3).map (fun i => (i.zero, i.size, i.bytes)) = some (some (.int .i64 0), 1, 8) := by kernel_rfl
set_option maxHeartbeats 8000000 in
set_option maxRecDepth 100000 in
theorem l1Sort_any (n : Nat) (f : Nat → Int) (hn : n ≤ 1048576) (v : Value) (w : World) (hv : SlB w v n f) :
    Calls Try.prog 35 #[v] w fun e w' => (∃ g cap, e = .returned (.slice (some ⟨g, 0, none⟩) (srt (fstZ f n)).length cap) ∧ Oq w.heap.size w' (srt (fstZ f n)) g cap) ∧ Below w.heap.size w w' := by
  obtain ⟨i0, hi0, hz0, hz1, hz2⟩ := info_parts srlInfo
  obtain ⟨av, cv, rfl, _, _⟩ := hv.lens
  have HV := hid hv
  have HO0 := hid (show Oq w.heap.size (w.alloc (.cells #[] 3)) (srt (fstZ f 0)) w.heap.size 0 from ⟨World.ownsRow_made (base := w.heap.size) (e := 3) (size := 1) w #[] 0 (Nat.le_refl _) (by decide) rfl, Nat.le_refl _, by simp, Nat.le_refl _⟩)
  have HB0 := hid ((Below.refl w.heap.size w).alloc (Nat.le_refl _) (.cells #[] 3))
  clear hv
  have HS := AllLt.start w; go_enter Try.func35, Try.ntmps35
  go_wp2_with fail
  go_loopw [3, 4] (fun v a wr => ∃ i : Nat, i ≤ n ∧ a = .int .i64 (i : Int) ∧ ∃ g cap, v = .slice (some ⟨g, 0, none⟩) (srt (fstZ f i)).length cap ∧ Hid (Oq w.heap.size wr (srt (fstZ f i)) g cap) ∧ Hid (Below w.heap.size w wr)) (fun _ a _ => n - (intOf a).toNat)
  case atStart => exact ⟨0, by omega, rfl, _, 0, rfl, HO0, HB0⟩
  case round =>
    obtain ⟨i, hi, rfl, g, cap, rfl, HO, HB⟩ := hrel
    clear HS HO0 HB0
    obtain ⟨wi, rfl⟩ : ∃ wi : World, wi = wr := ⟨_, rfl⟩
    by_cases hin : i < n
    · have hdi : decide ((i : Int) < (n : Int)) = true := by simp; omega
      have hdj : decide (i < n) = true := by simp; omega
      have HNX := hid (srt_next f i)
      have HAS := hid (srt_asc (fstZ f i))
      have HLE := hid (show (srt (fstZ f i)).length ≤ 1048576 by have := srt_len (fstZ f i); rw [fstZ_len] at this; omega)
      generalize srt (fstZ f i) = l at *
      obtain ⟨av', cv', e1, _, hcl⟩ := (HV.out.below HB.out).lens
      cases e1
      obtain ⟨bl, ol, rfl, hbl, hci⟩ := hcl i hin
      have HBL := hid hbl
      clear hcl
      generalize f i = x at *
      have hll := HLE.out
      go_wp2_with fail
      go_loopw [5] (fun a wr => ∃ at' : Nat, at' ≤ l.length ∧ a = .int .i64 (at' : Int) ∧ Hid (lw x l ≤ at') ∧ Hid (Below wi.heap.size wi wr)) (fun a _ => (intOf a).toNat)
      case atStart => exact ⟨l.length, Nat.le_refl _, rfl, hid (lw_le x l), hid (Below.refl _ _)⟩
      case round =>
        obtain ⟨at', hat, rfl, HLW, HBj⟩ := hrel
        (try clear HS)
        obtain ⟨wj, rfl⟩ : ∃ wj : World, wj = wr := ⟨_, rfl⟩
        have HOj := hid (HO.out.below HBj.out)
        have hcj : wj.cell? ⟨bl, ol + i, none⟩ = some (.int .i64 x) := (HBj.out.cell (p := ⟨bl, ol + i, none⟩) HBL.out).trans hci
        by_cases h0 : at' = 0
        · have hg0 : decide ((0 : Int) < (at' : Int)) = false := by simp; omega
          have hg1 : decide (0 < at') = false := by simp; omega
          have HFIN := hid (show lw x l = at' by have := HLW.out; omega)
          have HH0 := hid h0
          clear h0
          go_wp2_with fail
          go_quiet (fail)
          have HBk := hid (below_drewN' HBj.out nq)
          clear hcj HOj
          generalize wj.drewN nq = wk at *
          clear hg0 hg1
          go_wp2_with fail
          have HOk := hid (HO.out.below HBk.out)
          have hck : wk.cell? ⟨bl, ol + i, none⟩ = some (.int .i64 x) := (HBk.out.cell (p := ⟨bl, ol + i, none⟩) HBL.out).trans hci
          by_cases hlt : at' < l.length
          · have hd8 : decide ((at' : Int) < (l.length : Int)) = true := by simp; omega
            have hd9 : decide (at' < l.length) = true := by simp; omega
            have hcg := HOk.out.at hlt
            have hwa : IntKind.i64.wrap (at' : Int) = (at' : Int) := IntWalk.i64_in _ (by omega)
            have HMEM := hid (lw_mem (x := x) HAS.out)
            rw [HFIN.out] at HMEM
            generalize l.getD at' 0 = y2 at *
            by_cases hyx : y2 = x
            · have hq : (y2 == x) = true := by rw [hyx]; simp
              have HINS := hid (show insX l x = l by unfold insX; rw [if_pos (HMEM.out.2 ⟨hlt, hyx⟩)])
              clear hyx
              go_quiet (fail)
              have HBn := hid (HB.out.trans ((below_drewN' HBk.out nq).mono HB.out.size))
              have HOn := hid (HO.out.below (below_drewN' HBk.out nq))
              go_wp2
              refine ⟨?_, ?measure⟩
              · exact ⟨i + 1, by omega, by go_num, g, cap, by rw [HNX.out, HINS.out], by rw [HNX.out, HINS.out]; exact HOn, HBn⟩
              case measure => simp [intOf]; omega
            · have hq : (y2 == x) = false := by rw [beq_eq_false_iff_ne]; exact hyx
              have HNM := hid (show ¬ x ∈ l from fun h => hyx (HMEM.out.1 h).2)
              clear hyx
              go_quiet (fail)
              have HBn := hid (below_drewN' HBk.out nq)
              clear hck hcg HOk
              generalize wk.drewN nq = wn at *
              go_wp2_with fail
              have HOn := hid (HO.out.below HBn.out)
              have hcn : wn.cell? ⟨bl, ol + i, none⟩ = some (.int .i64 x) := (HBn.out.cell (p := ⟨bl, ol + i, none⟩) HBL.out).trans hci
              have HINS := hid (show insX l x = l.take at' ++ x :: l.drop at' by unfold insX; rw [if_neg HNM.out, HFIN.out])
              have HLN := hid (show (insX l x).length = l.length + 1 by rw [HINS.out]; simp; omega)
              have HWn := hid (show w.heap.size ≤ wn.heap.size from Nat.le_trans HB.out.size HBn.out.size)
              have HBW := hid (show Below w.heap.size w wn from HB.out.trans (HBn.out.mono HB.out.size))
              have hbln : bl < wn.heap.size := Nat.lt_of_lt_of_le HBL.out HBn.out.size
              have HCP := HOn.out.cap
              have s0 : (0 : Int) ≤ (at' : Int) := by omega
              have s1 : (at' : Int) ≤ (cap : Int) := by omega
              have s2 : (at' : Int) ≤ (l.length : Int) := by omega
              have s3 : (l.length : Int) ≤ (cap : Int) := by omega
              have s4 : (0 : Int) ≤ (i : Int) := by omega
              have s5 : (i : Int) < (n : Int) := by omega
              have HE0 := hid (show (wn.alloc (.cells #[] 3)).ownsRow w.heap.size 3 1 (.slice (some ⟨wn.heap.size, 0, none⟩) 0 0) 0 [] from World.ownsRow_made (base := w.heap.size) (e := 3) (size := 1) wn #[] 0 HWn.out (by decide) rfl)
              have HE1 := hid (show ((wn.alloc (.cells #[.int .i64 x] 3)).alloc (.cells #[] 3)).ownsRow w.heap.size 3 1 (.slice (some ⟨wn.heap.size + 1, 0, none⟩) 0 0) 0 [] by
                have h := World.ownsRow_made (base := w.heap.size) (e := 3) (size := 1) (wn.alloc (.cells #[.int .i64 x] 3)) #[] 0 (by rw [World.size_alloc]; have := HWn.out; omega) (by decide) rfl
                rw [World.size_alloc] at h
                exact h)
              have HX0 := hid (show (wn.alloc (.cells #[.int .i64 x] 3)).cell? ⟨wn.heap.size, 0, none⟩ = some (.int .i64 x) from (cell_of_row _ wn.heap.size 0 #[.int .i64 x] 3 (0, 0) (heap_alloc_new _ _)).trans (by rfl))
              have HX1 := hid (show ((wn.alloc (.cells #[] 3)).alloc (.cells #[.int .i64 x] 3)).cell? ⟨wn.heap.size + 1, 0, none⟩ = some (.int .i64 x) by
                have h := (cell_of_row ((wn.alloc (.cells #[] 3)).alloc (.cells #[.int .i64 x] 3)) (wn.alloc (.cells #[] 3)).heap.size 0 #[.int .i64 x] 3 (0, 0) (heap_alloc_new _ _)).trans (show _ = some (Value.int .i64 x) by rfl)
                rw [World.size_alloc] at h
                exact h)
              obtain ⟨ad, had, HDC⟩ : ∃ ad, (if cap = at' then some (⟨g, 0, none⟩ : Addr) else some ⟨g, at', none⟩) = some ad ∧ Hid (∀ W : World, Below wn.heap.size wn W → ∀ j u, (ivL (l.drop at'))[j]? = some u → W.cell? (ad.add j) = some u) := by
                by_cases hca : cap = at'
                · refine ⟨⟨g, 0, none⟩, by rw [if_pos hca], hid fun W hW j u hu => ?_⟩
                  rw [List.drop_eq_nil_of_le (show l.length ≤ at' by omega)] at hu
                  simp [ivL] at hu
                · exact ⟨⟨g, at', none⟩, by rw [if_neg hca], hid fun W hW => (HOn.out.below hW).drop at'⟩
              clear HO HBn HB hci HAS
              go_region_held3 (fun wx => wx.cell? ⟨bl, ol + i, none⟩ = some (.int .i64 x)) (exact ((show Below wn.heap.size wn _ from by (repeat' (first | (with_reducible exact Below.refl _ _) | (with_reducible refine Below.setCell ?_ ?_ _) | (with_reducible refine below_drewN' ?_ _) | (with_reducible refine below_drew' ?_) | (with_reducible refine Below.alloc ?_ ?_ _) | (with_reducible assumption) | go_size))).cell (p := ⟨bl, ol + i, none⟩) hbln).trans hcn)
                (first
                    | (go_loud ((refine step_append_any (by rfl) _ _ 29 (by rfl) w.heap.size 3 i0 _ 1 8 Try.underlying29 hi0 hz0 hz1 hz2 rfl (by decide) wn.heap.size 0 0 [] (by rfl) (Nat.le_refl _) (by first | (simp only [World.size_alloc]; omega) | go_size) (own_blw HE0.out (by (repeat' (first | (with_reducible exact Below.refl _ _) | (with_reducible refine Below.setCell ?_ ?_ _) | (with_reducible refine below_drewN' ?_ _) | (with_reducible refine below_drew' ?_) | (with_reducible refine Below.alloc ?_ ?_ _) | (with_reducible assumption) | go_size)))) _ at' _ (ivL (l.take at')) (by rfl) (by simp [ivL]; omega) ((HOn.out.below (by (repeat' (first | (with_reducible exact Below.refl _ _) | (with_reducible refine Below.setCell ?_ ?_ _) | (with_reducible refine below_drewN' ?_ _) | (with_reducible refine below_drew' ?_) | (with_reducible refine Below.alloc ?_ ?_ _) | (with_reducible assumption) | go_size)))).take at') (ivL_one _) at' (by omega) (ivL (l.take at')) (by rfl) (by unfold maxLen; omega) (by omega) (by simp; have := HWn.out; omega) (wn.heap.size + 1) ?_ ?_); (simp <;> fail); intro g3 cap3 w3 hown3 hgrow3 hat3 hlt3 hcap3; have hb3 : Below wn.heap.size wn w3 := Below.grown (by (repeat' (first | (with_reducible exact Below.refl _ _) | (with_reducible refine Below.setCell ?_ ?_ _) | (with_reducible refine below_drewN' ?_ _) | (with_reducible refine below_drew' ?_) | (with_reducible refine Below.alloc ?_ ?_ _) | (with_reducible assumption) | go_size))) hgrow3 (by first | (simp only [World.size_alloc]; omega) | go_size) (fun j hj => by injection hj; omega); have HO3 := hid hown3; have hge3 : wn.heap.size ≤ g3 := (by omega); clear hown3 hgrow3 hat3))
                    | (go_loud ((refine step_append_any (by rfl) _ _ 29 (by rfl) w.heap.size 3 i0 _ 1 8 Try.underlying29 hi0 hz0 hz1 hz2 rfl (by decide) wn.heap.size 0 0 [] (by rfl) (Nat.le_refl _) (by first | (simp only [World.size_alloc]; omega) | go_size) (own_blw HE0.out (by (repeat' (first | (with_reducible exact Below.refl _ _) | (with_reducible refine Below.setCell ?_ ?_ _) | (with_reducible refine below_drewN' ?_ _) | (with_reducible refine below_drew' ?_) | (with_reducible refine Below.alloc ?_ ?_ _) | (with_reducible assumption) | go_size)))) _ at' _ (ivL (l.take at')) (by rfl) (by simp [ivL]; omega) ((HOn.out.below (by (repeat' (first | (with_reducible exact Below.refl _ _) | (with_reducible refine Below.setCell ?_ ?_ _) | (with_reducible refine below_drewN' ?_ _) | (with_reducible refine below_drew' ?_) | (with_reducible refine Below.alloc ?_ ?_ _) | (with_reducible assumption) | go_size)))).take at') (ivL_one _) at' (by omega) (ivL (l.take at')) (by rfl) (by unfold maxLen; omega) (by omega) (by simp; have := HWn.out; omega) (wn.heap.size + 1 + 1) ?_ ?_); (simp <;> fail); intro g3 cap3 w3 hown3 hgrow3 hat3 hlt3 hcap3; have hb3 : Below wn.heap.size wn w3 := Below.grown (by (repeat' (first | (with_reducible exact Below.refl _ _) | (with_reducible refine Below.setCell ?_ ?_ _) | (with_reducible refine below_drewN' ?_ _) | (with_reducible refine below_drew' ?_) | (with_reducible refine Below.alloc ?_ ?_ _) | (with_reducible assumption) | go_size))) hgrow3 (by first | (simp only [World.size_alloc]; omega) | go_size) (fun j hj => by injection hj; omega); have HO3 := hid hown3; have hge3 : wn.heap.size ≤ g3 := (by omega); have HX3 := hid (show w3.cell? ⟨wn.heap.size + 1, 0, none⟩ = some (.int .i64 x) from (hgrow3.cell_far ⟨wn.heap.size + 1, 0, none⟩ (show wn.heap.size + 1 < _ from by first | (simp only [World.size_alloc]; omega) | go_size) (show some (wn.heap.size + 1) ≠ some wn.heap.size from fun e => by injection e; omega)).trans HX1.out); clear hown3 hgrow3 hat3))
                    | (go_loud ((refine step_append_any (by rfl) _ _ 29 (by rfl) w.heap.size 3 i0 _ 1 8 Try.underlying29 hi0 hz0 hz1 hz2 rfl (by decide) (wn.heap.size + 1) 0 0 [] (by rfl) (Nat.le_refl _) (by first | (simp only [World.size_alloc]; omega) | go_size) (own_blw HE1.out (by (repeat' (first | (with_reducible exact Below.refl _ _) | (with_reducible refine Below.setCell ?_ ?_ _) | (with_reducible refine below_drewN' ?_ _) | (with_reducible refine below_drew' ?_) | (with_reducible refine Below.alloc ?_ ?_ _) | (with_reducible assumption) | go_size)))) _ at' _ (ivL (l.take at')) (by rfl) (by simp [ivL]; omega) ((HOn.out.below (by (repeat' (first | (with_reducible exact Below.refl _ _) | (with_reducible refine Below.setCell ?_ ?_ _) | (with_reducible refine below_drewN' ?_ _) | (with_reducible refine below_drew' ?_) | (with_reducible refine Below.alloc ?_ ?_ _) | (with_reducible assumption) | go_size)))).take at') (ivL_one _) at' (by omega) (ivL (l.take at')) (by rfl) (by unfold maxLen; omega) (by omega) (by simp; have := HWn.out; omega) (wn.heap.size + 1 + 1) ?_ ?_); (simp <;> fail); intro g3 cap3 w3 hown3 hgrow3 hat3 hlt3 hcap3; have hb3 : Below wn.heap.size wn w3 := Below.grown (by (repeat' (first | (with_reducible exact Below.refl _ _) | (with_reducible refine Below.setCell ?_ ?_ _) | (with_reducible refine below_drewN' ?_ _) | (with_reducible refine below_drew' ?_) | (with_reducible refine Below.alloc ?_ ?_ _) | (with_reducible assumption) | go_size))) hgrow3 (by first | (simp only [World.size_alloc]; omega) | go_size) (fun j hj => by injection hj; omega); have HO3 := hid hown3; have hge3 : wn.heap.size ≤ g3 := (by omega); have HX3 := hid (show w3.cell? ⟨wn.heap.size, 0, none⟩ = some (.int .i64 x) from (hgrow3.cell_far ⟨wn.heap.size, 0, none⟩ (show wn.heap.size < _ from by first | (simp only [World.size_alloc]; omega) | go_size) (show some wn.heap.size ≠ some (wn.heap.size + 1) from fun e => by injection e; omega)).trans (((show Below (wn.alloc (.cells #[.int .i64 x] 3)).heap.size (wn.alloc (.cells #[.int .i64 x] 3)) _ from by (repeat' (first | (with_reducible exact Below.refl _ _) | (with_reducible refine Below.setCell ?_ ?_ _) | (with_reducible refine below_drewN' ?_ _) | (with_reducible refine below_drew' ?_) | (with_reducible refine Below.alloc ?_ ?_ _) | (with_reducible assumption) | go_size))).cell (p := ⟨wn.heap.size, 0, none⟩) (show wn.heap.size < _ from by first | (simp only [World.size_alloc]; omega) | go_size)).trans HX0.out)); clear hown3 hgrow3 hat3))
                    | (go_loud ((refine step_append_any (by rfl) _ _ 29 (by rfl) w.heap.size 3 i0 _ 1 8 Try.underlying29 hi0 hz0 hz1 hz2 rfl (by decide) g3 at' cap3 (ivL (l.take at')) (by rfl) hcap3 (by first | omega | (simp; omega)) (own_blw HO3.out (by (repeat' (first | (with_reducible exact Below.refl _ _) | (with_reducible refine Below.setCell ?_ ?_ _) | (with_reducible refine below_drewN' ?_ _) | (with_reducible refine below_drew' ?_) | (with_reducible refine Below.alloc ?_ ?_ _) | (with_reducible assumption) | go_size)))) _ 1 _ [.int .i64 x] (by rfl) (by rfl) (World.news_of_block (cs := #[.int .i64 x]) (t := 3) (fr := (0, 0)) (heap_alloc_new _ _)) (by intro u hu; simp at hu; subst hu; rfl) (at' + 1) (by rfl) (ivL (l.take at' ++ [x])) (ivL_app (l.take at') [x]) (by unfold maxLen; omega) (by omega) (by have := HWn.out; have := hb3.size; first | omega | (simp; omega)) _ rfl ?_); intro g4 cap4 w4 hown4 hgrow4 hat4 hlt4 hcap4; have hb4 : Below wn.heap.size wn w4 := Below.grown (by (repeat' (first | (with_reducible exact Below.refl _ _) | (with_reducible refine Below.setCell ?_ ?_ _) | (with_reducible refine below_drewN' ?_ _) | (with_reducible refine below_drew' ?_) | (with_reducible refine Below.alloc ?_ ?_ _) | (with_reducible assumption) | go_size))) hgrow4 (by have := hb3.size; first | omega | (simp; omega)) (fun j hj => by injection hj; omega); have HO4 := hid hown4; have hge4 : wn.heap.size ≤ g4 := (by have := hb3.size; (try simp only [World.size_alloc] at hat4); omega); clear hown4 hgrow4 hat4))
                    | (go_loud ((refine step_append_any (by rfl) _ _ 29 (by rfl) w.heap.size 3 i0 _ 1 8 Try.underlying29 hi0 hz0 hz1 hz2 rfl (by decide) g3 at' cap3 (ivL (l.take at')) (by rfl) hcap3 (by first | omega | (simp; omega)) (own_blw HO3.out (by (repeat' (first | (with_reducible exact Below.refl _ _) | (with_reducible refine Below.setCell ?_ ?_ _) | (with_reducible refine below_drewN' ?_ _) | (with_reducible refine below_drew' ?_) | (with_reducible refine Below.alloc ?_ ?_ _) | (with_reducible assumption) | go_size)))) _ 1 _ [.int .i64 x] (by rfl) (by rfl) (news_of_one HX3.out) (by intro u hu; simp at hu; subst hu; rfl) (at' + 1) (by rfl) (ivL (l.take at' ++ [x])) (ivL_app (l.take at') [x]) (by unfold maxLen; omega) (by omega) (by have := HWn.out; have := hb3.size; first | omega | (simp; omega)) _ rfl ?_); intro g4 cap4 w4 hown4 hgrow4 hat4 hlt4 hcap4; have hb4 : Below wn.heap.size wn w4 := Below.grown (by (repeat' (first | (with_reducible exact Below.refl _ _) | (with_reducible refine Below.setCell ?_ ?_ _) | (with_reducible refine below_drewN' ?_ _) | (with_reducible refine below_drew' ?_) | (with_reducible refine Below.alloc ?_ ?_ _) | (with_reducible assumption) | go_size))) hgrow4 (by have := hb3.size; first | omega | (simp; omega)) (fun j hj => by injection hj; omega); have HO4 := hid hown4; have hge4 : wn.heap.size ≤ g4 := (by have := hb3.size; (try simp only [World.size_alloc] at hat4); omega); clear hown4 hgrow4 hat4))
                    | ((refine step_append_any (by rfl) _ _ 29 (by rfl) w.heap.size 3 i0 _ 1 8 Try.underlying29 hi0 hz0 hz1 hz2 rfl (by decide) g4 (at' + 1) cap4 (ivL (l.take at' ++ [x])) (by rfl) hcap4 hlt4 HO4.out ad (l.length - at') (cap - at') (ivL (l.drop at')) (by first | rfl | ((conv => lhs; whnf); rw [had])) (by first | (simp [ivL]; done) | (simp [ivL]; omega)) (HDC.out _ (by (repeat' (first | (with_reducible exact Below.refl _ _) | (with_reducible refine Below.setCell ?_ ?_ _) | (with_reducible refine below_drewN' ?_ _) | (with_reducible refine below_drew' ?_) | (with_reducible refine Below.alloc ?_ ?_ _) | (with_reducible assumption) | go_size)))) (ivL_one _) (insX l x).length (by have := HLN.out; omega) (ivL (insX l x)) (by simp [HINS.out, ivL]) (by have := HLN.out; unfold maxLen; omega) (by have := HLN.out; omega) (by have := HWn.out; have := hb4.size; omega) w4.heap.size rfl ?_); intro g5 cap5 w5 hown5 hgrow5 hat5 hlt5 hcap5; have hb5 : Below wn.heap.size wn w5 := Below.grown hb4 hgrow5 hb4.size (fun j hj => by injection hj; omega); have HO5 := hid hown5; have hge5 : wn.heap.size ≤ g5 := (by have := hb4.size; omega); clear hown5 hgrow5 hat5))
              all_goals
                have HBz := hid (HBW.out.trans (hb5.mono HWn.out))
                have HOz := hid (show Oq w.heap.size w5 (insX l x) g5 cap5 from ⟨HO5.out, hcap5, hlt5, Nat.le_trans HWn.out hge5⟩)
                go_wp2
                refine ⟨?_, ?measure⟩
                · exact ⟨i + 1, by omega, by go_num, g5, cap5, by rw [HNX.out], by rw [HNX.out]; exact HOz, HBz⟩
                case measure => simp [intOf]; omega
          · have hd8 : decide ((at' : Int) < (l.length : Int)) = false := by simp; omega
            have hd9 : decide (at' < l.length) = false := by simp; omega
            have HNM := hid (show ¬ x ∈ l from fun h => by
              have := ((lw_mem (x := x) HAS.out).1 h).1
              rw [HFIN.out] at this
              omega)
            go_quiet (fail)
            have HBn := hid (below_drewN' HBk.out nq)
            clear hck HOk
            generalize wk.drewN nq = wn at *
            go_wp2_with fail
            have HOn := hid (HO.out.below HBn.out)
            have hcn : wn.cell? ⟨bl, ol + i, none⟩ = some (.int .i64 x) := (HBn.out.cell (p := ⟨bl, ol + i, none⟩) HBL.out).trans hci
            have HINS := hid (show insX l x = l.take at' ++ x :: l.drop at' by unfold insX; rw [if_neg HNM.out, HFIN.out])
            have HLN := hid (show (insX l x).length = l.length + 1 by rw [HINS.out]; simp; omega)
            have HWn := hid (show w.heap.size ≤ wn.heap.size from Nat.le_trans HB.out.size HBn.out.size)
            have HBW := hid (show Below w.heap.size w wn from HB.out.trans (HBn.out.mono HB.out.size))
            have hbln : bl < wn.heap.size := Nat.lt_of_lt_of_le HBL.out HBn.out.size
            have HCP := HOn.out.cap
            have s0 : (0 : Int) ≤ (at' : Int) := by omega
            have s1 : (at' : Int) ≤ (cap : Int) := by omega
            have s2 : (at' : Int) ≤ (l.length : Int) := by omega
            have s3 : (l.length : Int) ≤ (cap : Int) := by omega
            have s4 : (0 : Int) ≤ (i : Int) := by omega
            have s5 : (i : Int) < (n : Int) := by omega
            have HE0 := hid (show (wn.alloc (.cells #[] 3)).ownsRow w.heap.size 3 1 (.slice (some ⟨wn.heap.size, 0, none⟩) 0 0) 0 [] from World.ownsRow_made (base := w.heap.size) (e := 3) (size := 1) wn #[] 0 HWn.out (by decide) rfl)
            have HE1 := hid (show ((wn.alloc (.cells #[.int .i64 x] 3)).alloc (.cells #[] 3)).ownsRow w.heap.size 3 1 (.slice (some ⟨wn.heap.size + 1, 0, none⟩) 0 0) 0 [] by
              have h := World.ownsRow_made (base := w.heap.size) (e := 3) (size := 1) (wn.alloc (.cells #[.int .i64 x] 3)) #[] 0 (by rw [World.size_alloc]; have := HWn.out; omega) (by decide) rfl
              rw [World.size_alloc] at h
              exact h)
            have HX0 := hid (show (wn.alloc (.cells #[.int .i64 x] 3)).cell? ⟨wn.heap.size, 0, none⟩ = some (.int .i64 x) from (cell_of_row _ wn.heap.size 0 #[.int .i64 x] 3 (0, 0) (heap_alloc_new _ _)).trans (by rfl))
            have HX1 := hid (show ((wn.alloc (.cells #[] 3)).alloc (.cells #[.int .i64 x] 3)).cell? ⟨wn.heap.size + 1, 0, none⟩ = some (.int .i64 x) by
              have h := (cell_of_row ((wn.alloc (.cells #[] 3)).alloc (.cells #[.int .i64 x] 3)) (wn.alloc (.cells #[] 3)).heap.size 0 #[.int .i64 x] 3 (0, 0) (heap_alloc_new _ _)).trans (show _ = some (Value.int .i64 x) by rfl)
              rw [World.size_alloc] at h
              exact h)
            obtain ⟨ad, had, HDC⟩ : ∃ ad, (if cap = at' then some (⟨g, 0, none⟩ : Addr) else some ⟨g, at', none⟩) = some ad ∧ Hid (∀ W : World, Below wn.heap.size wn W → ∀ j u, (ivL (l.drop at'))[j]? = some u → W.cell? (ad.add j) = some u) := by
              by_cases hca : cap = at'
              · refine ⟨⟨g, 0, none⟩, by rw [if_pos hca], hid fun W hW j u hu => ?_⟩
                rw [List.drop_eq_nil_of_le (show l.length ≤ at' by omega)] at hu
                simp [ivL] at hu
              · exact ⟨⟨g, at', none⟩, by rw [if_neg hca], hid fun W hW => (HOn.out.below hW).drop at'⟩
            clear HO HBn HB hci HAS
            go_region_held3 (fun wx => wx.cell? ⟨bl, ol + i, none⟩ = some (.int .i64 x)) (exact ((show Below wn.heap.size wn _ from by (repeat' (first | (with_reducible exact Below.refl _ _) | (with_reducible refine Below.setCell ?_ ?_ _) | (with_reducible refine below_drewN' ?_ _) | (with_reducible refine below_drew' ?_) | (with_reducible refine Below.alloc ?_ ?_ _) | (with_reducible assumption) | go_size))).cell (p := ⟨bl, ol + i, none⟩) hbln).trans hcn)
              (first
                  | (go_loud ((refine step_append_any (by rfl) _ _ 29 (by rfl) w.heap.size 3 i0 _ 1 8 Try.underlying29 hi0 hz0 hz1 hz2 rfl (by decide) wn.heap.size 0 0 [] (by rfl) (Nat.le_refl _) (by first | (simp only [World.size_alloc]; omega) | go_size) (own_blw HE0.out (by (repeat' (first | (with_reducible exact Below.refl _ _) | (with_reducible refine Below.setCell ?_ ?_ _) | (with_reducible refine below_drewN' ?_ _) | (with_reducible refine below_drew' ?_) | (with_reducible refine Below.alloc ?_ ?_ _) | (with_reducible assumption) | go_size)))) _ at' _ (ivL (l.take at')) (by rfl) (by simp [ivL]; omega) ((HOn.out.below (by (repeat' (first | (with_reducible exact Below.refl _ _) | (with_reducible refine Below.setCell ?_ ?_ _) | (with_reducible refine below_drewN' ?_ _) | (with_reducible refine below_drew' ?_) | (with_reducible refine Below.alloc ?_ ?_ _) | (with_reducible assumption) | go_size)))).take at') (ivL_one _) at' (by omega) (ivL (l.take at')) (by rfl) (by unfold maxLen; omega) (by omega) (by simp; have := HWn.out; omega) (wn.heap.size + 1) ?_ ?_); (simp <;> fail); intro g3 cap3 w3 hown3 hgrow3 hat3 hlt3 hcap3; have hb3 : Below wn.heap.size wn w3 := Below.grown (by (repeat' (first | (with_reducible exact Below.refl _ _) | (with_reducible refine Below.setCell ?_ ?_ _) | (with_reducible refine below_drewN' ?_ _) | (with_reducible refine below_drew' ?_) | (with_reducible refine Below.alloc ?_ ?_ _) | (with_reducible assumption) | go_size))) hgrow3 (by first | (simp only [World.size_alloc]; omega) | go_size) (fun j hj => by injection hj; omega); have HO3 := hid hown3; have hge3 : wn.heap.size ≤ g3 := (by omega); clear hown3 hgrow3 hat3))
                  | (go_loud ((refine step_append_any (by rfl) _ _ 29 (by rfl) w.heap.size 3 i0 _ 1 8 Try.underlying29 hi0 hz0 hz1 hz2 rfl (by decide) wn.heap.size 0 0 [] (by rfl) (Nat.le_refl _) (by first | (simp only [World.size_alloc]; omega) | go_size) (own_blw HE0.out (by (repeat' (first | (with_reducible exact Below.refl _ _) | (with_reducible refine Below.setCell ?_ ?_ _) | (with_reducible refine below_drewN' ?_ _) | (with_reducible refine below_drew' ?_) | (with_reducible refine Below.alloc ?_ ?_ _) | (with_reducible assumption) | go_size)))) _ at' _ (ivL (l.take at')) (by rfl) (by simp [ivL]; omega) ((HOn.out.below (by (repeat' (first | (with_reducible exact Below.refl _ _) | (with_reducible refine Below.setCell ?_ ?_ _) | (with_reducible refine below_drewN' ?_ _) | (with_reducible refine below_drew' ?_) | (with_reducible refine Below.alloc ?_ ?_ _) | (with_reducible assumption) | go_size)))).take at') (ivL_one _) at' (by omega) (ivL (l.take at')) (by rfl) (by unfold maxLen; omega) (by omega) (by simp; have := HWn.out; omega) (wn.heap.size + 1 + 1) ?_ ?_); (simp <;> fail); intro g3 cap3 w3 hown3 hgrow3 hat3 hlt3 hcap3; have hb3 : Below wn.heap.size wn w3 := Below.grown (by (repeat' (first | (with_reducible exact Below.refl _ _) | (with_reducible refine Below.setCell ?_ ?_ _) | (with_reducible refine below_drewN' ?_ _) | (with_reducible refine below_drew' ?_) | (with_reducible refine Below.alloc ?_ ?_ _) | (with_reducible assumption) | go_size))) hgrow3 (by first | (simp only [World.size_alloc]; omega) | go_size) (fun j hj => by injection hj; omega); have HO3 := hid hown3; have hge3 : wn.heap.size ≤ g3 := (by omega); have HX3 := hid (show w3.cell? ⟨wn.heap.size + 1, 0, none⟩ = some (.int .i64 x) from (hgrow3.cell_far ⟨wn.heap.size + 1, 0, none⟩ (show wn.heap.size + 1 < _ from by first | (simp only [World.size_alloc]; omega) | go_size) (show some (wn.heap.size + 1) ≠ some wn.heap.size from fun e => by injection e; omega)).trans HX1.out); clear hown3 hgrow3 hat3))
                  | (go_loud ((refine step_append_any (by rfl) _ _ 29 (by rfl) w.heap.size 3 i0 _ 1 8 Try.underlying29 hi0 hz0 hz1 hz2 rfl (by decide) (wn.heap.size + 1) 0 0 [] (by rfl) (Nat.le_refl _) (by first | (simp only [World.size_alloc]; omega) | go_size) (own_blw HE1.out (by (repeat' (first | (with_reducible exact Below.refl _ _) | (with_reducible refine Below.setCell ?_ ?_ _) | (with_reducible refine below_drewN' ?_ _) | (with_reducible refine below_drew' ?_) | (with_reducible refine Below.alloc ?_ ?_ _) | (with_reducible assumption) | go_size)))) _ at' _ (ivL (l.take at')) (by rfl) (by simp [ivL]; omega) ((HOn.out.below (by (repeat' (first | (with_reducible exact Below.refl _ _) | (with_reducible refine Below.setCell ?_ ?_ _) | (with_reducible refine below_drewN' ?_ _) | (with_reducible refine below_drew' ?_) | (with_reducible refine Below.alloc ?_ ?_ _) | (with_reducible assumption) | go_size)))).take at') (ivL_one _) at' (by omega) (ivL (l.take at')) (by rfl) (by unfold maxLen; omega) (by omega) (by simp; have := HWn.out; omega) (wn.heap.size + 1 + 1) ?_ ?_); (simp <;> fail); intro g3 cap3 w3 hown3 hgrow3 hat3 hlt3 hcap3; have hb3 : Below wn.heap.size wn w3 := Below.grown (by (repeat' (first | (with_reducible exact Below.refl _ _) | (with_reducible refine Below.setCell ?_ ?_ _) | (with_reducible refine below_drewN' ?_ _) | (with_reducible refine below_drew' ?_) | (with_reducible refine Below.alloc ?_ ?_ _) | (with_reducible assumption) | go_size))) hgrow3 (by first | (simp only [World.size_alloc]; omega) | go_size) (fun j hj => by injection hj; omega); have HO3 := hid hown3; have hge3 : wn.heap.size ≤ g3 := (by omega); have HX3 := hid (show w3.cell? ⟨wn.heap.size, 0, none⟩ = some (.int .i64 x) from (hgrow3.cell_far ⟨wn.heap.size, 0, none⟩ (show wn.heap.size < _ from by first | (simp only [World.size_alloc]; omega) | go_size) (show some wn.heap.size ≠ some (wn.heap.size + 1) from fun e => by injection e; omega)).trans (((show Below (wn.alloc (.cells #[.int .i64 x] 3)).heap.size (wn.alloc (.cells #[.int .i64 x] 3)) _ from by (repeat' (first | (with_reducible exact Below.refl _ _) | (with_reducible refine Below.setCell ?_ ?_ _) | (with_reducible refine below_drewN' ?_ _) | (with_reducible refine below_drew' ?_) | (with_reducible refine Below.alloc ?_ ?_ _) | (with_reducible assumption) | go_size))).cell (p := ⟨wn.heap.size, 0, none⟩) (show wn.heap.size < _ from by first | (simp only [World.size_alloc]; omega) | go_size)).trans HX0.out)); clear hown3 hgrow3 hat3))
                  | (go_loud ((refine step_append_any (by rfl) _ _ 29 (by rfl) w.heap.size 3 i0 _ 1 8 Try.underlying29 hi0 hz0 hz1 hz2 rfl (by decide) g3 at' cap3 (ivL (l.take at')) (by rfl) hcap3 (by first | omega | (simp; omega)) (own_blw HO3.out (by (repeat' (first | (with_reducible exact Below.refl _ _) | (with_reducible refine Below.setCell ?_ ?_ _) | (with_reducible refine below_drewN' ?_ _) | (with_reducible refine below_drew' ?_) | (with_reducible refine Below.alloc ?_ ?_ _) | (with_reducible assumption) | go_size)))) _ 1 _ [.int .i64 x] (by rfl) (by rfl) (World.news_of_block (cs := #[.int .i64 x]) (t := 3) (fr := (0, 0)) (heap_alloc_new _ _)) (by intro u hu; simp at hu; subst hu; rfl) (at' + 1) (by rfl) (ivL (l.take at' ++ [x])) (ivL_app (l.take at') [x]) (by unfold maxLen; omega) (by omega) (by have := HWn.out; have := hb3.size; first | omega | (simp; omega)) _ rfl ?_); intro g4 cap4 w4 hown4 hgrow4 hat4 hlt4 hcap4; have hb4 : Below wn.heap.size wn w4 := Below.grown (by (repeat' (first | (with_reducible exact Below.refl _ _) | (with_reducible refine Below.setCell ?_ ?_ _) | (with_reducible refine below_drewN' ?_ _) | (with_reducible refine below_drew' ?_) | (with_reducible refine Below.alloc ?_ ?_ _) | (with_reducible assumption) | go_size))) hgrow4 (by have := hb3.size; first | omega | (simp; omega)) (fun j hj => by injection hj; omega); have HO4 := hid hown4; have hge4 : wn.heap.size ≤ g4 := (by have := hb3.size; (try simp only [World.size_alloc] at hat4); omega); clear hown4 hgrow4 hat4))
                  | (go_loud ((refine step_append_any (by rfl) _ _ 29 (by rfl) w.heap.size 3 i0 _ 1 8 Try.underlying29 hi0 hz0 hz1 hz2 rfl (by decide) g3 at' cap3 (ivL (l.take at')) (by rfl) hcap3 (by first | omega | (simp; omega)) (own_blw HO3.out (by (repeat' (first | (with_reducible exact Below.refl _ _) | (with_reducible refine Below.setCell ?_ ?_ _) | (with_reducible refine below_drewN' ?_ _) | (with_reducible refine below_drew' ?_) | (with_reducible refine Below.alloc ?_ ?_ _) | (with_reducible assumption) | go_size)))) _ 1 _ [.int .i64 x] (by rfl) (by rfl) (news_of_one HX3.out) (by intro u hu; simp at hu; subst hu; rfl) (at' + 1) (by rfl) (ivL (l.take at' ++ [x])) (ivL_app (l.take at') [x]) (by unfold maxLen; omega) (by omega) (by have := HWn.out; have := hb3.size; first | omega | (simp; omega)) _ rfl ?_); intro g4 cap4 w4 hown4 hgrow4 hat4 hlt4 hcap4; have hb4 : Below wn.heap.size wn w4 := Below.grown (by (repeat' (first | (with_reducible exact Below.refl _ _) | (with_reducible refine Below.setCell ?_ ?_ _) | (with_reducible refine below_drewN' ?_ _) | (with_reducible refine below_drew' ?_) | (with_reducible refine Below.alloc ?_ ?_ _) | (with_reducible assumption) | go_size))) hgrow4 (by have := hb3.size; first | omega | (simp; omega)) (fun j hj => by injection hj; omega); have HO4 := hid hown4; have hge4 : wn.heap.size ≤ g4 := (by have := hb3.size; (try simp only [World.size_alloc] at hat4); omega); clear hown4 hgrow4 hat4))
                  | ((refine step_append_any (by rfl) _ _ 29 (by rfl) w.heap.size 3 i0 _ 1 8 Try.underlying29 hi0 hz0 hz1 hz2 rfl (by decide) g4 (at' + 1) cap4 (ivL (l.take at' ++ [x])) (by rfl) hcap4 hlt4 HO4.out ad (l.length - at') (cap - at') (ivL (l.drop at')) (by first | rfl | ((conv => lhs; whnf); rw [had])) (by first | (simp [ivL]; done) | (simp [ivL]; omega)) (HDC.out _ (by (repeat' (first | (with_reducible exact Below.refl _ _) | (with_reducible refine Below.setCell ?_ ?_ _) | (with_reducible refine below_drewN' ?_ _) | (with_reducible refine below_drew' ?_) | (with_reducible refine Below.alloc ?_ ?_ _) | (with_reducible assumption) | go_size)))) (ivL_one _) (insX l x).length (by have := HLN.out; omega) (ivL (insX l x)) (by simp [HINS.out, ivL]) (by have := HLN.out; unfold maxLen; omega) (by have := HLN.out; omega) (by have := HWn.out; have := hb4.size; omega) w4.heap.size rfl ?_); intro g5 cap5 w5 hown5 hgrow5 hat5 hlt5 hcap5; have hb5 : Below wn.heap.size wn w5 := Below.grown hb4 hgrow5 hb4.size (fun j hj => by injection hj; omega); have HO5 := hid hown5; have hge5 : wn.heap.size ≤ g5 := (by have := hb4.size; omega); clear hown5 hgrow5 hat5))
            all_goals
              have HBz := hid (HBW.out.trans (hb5.mono HWn.out))
              have HOz := hid (show Oq w.heap.size w5 (insX l x) g5 cap5 from ⟨HO5.out, hcap5, hlt5, Nat.le_trans HWn.out hge5⟩)
              go_wp2
              refine ⟨?_, ?measure⟩
              · exact ⟨i + 1, by omega, by go_num, g5, cap5, by rw [HNX.out], by rw [HNX.out]; exact HOz, HBz⟩
              case measure => simp [intOf]; omega
        · obtain ⟨p, hp⟩ : ∃ p, at' = p + 1 := ⟨at' - 1, by omega⟩
          have hg0 : decide ((0 : Int) < (at' : Int)) = true := by simp; omega
          have hg1 : decide (0 < at') = true := by simp; omega
          have hcg := HOj.out.at (show p < l.length by omega)
          have hwp : IntKind.i64.wrap (p : Int) = (p : Int) := IntWalk.i64_in _ (by omega)
          have hsub : ((at' : Nat) : Int) - 1 = (p : Int) := by omega
          have HLA := hid (lw_at (x := x) HAS.out (show p < l.length by omega))
          generalize l.getD p 0 = y at *
          have hpl : p < l.length := by omega
          have i0' : (0 : Int) ≤ (p : Int) := by omega
          have i1' : (p : Int) < (l.length : Int) := by omega
          have hdp : decide (p < l.length) = true := by simp; omega
          by_cases hxy : x ≤ y
          · have hc : decide (x ≤ y) = true := by simp; omega
            have HLW2 := hid (show lw x l ≤ p by
              rcases Nat.lt_or_ge p (lw x l) with q | q
              · have := HLA.out.1 q; omega
              · exact q)
            have HPP := hid hp
            clear hp h0
            go_wp2_with fail
            go_quiet (fail)
            have HBk := hid (below_drewN' HBj.out nq)
            go_wp2
            go_roundw
            case rel => exact ⟨p, by omega, by first | rfl | go_num, HLW2, HBk⟩
            case measure => simp [intOf]; have := HPP.out; omega
          · have hc : decide (x ≤ y) = false := by simp; omega
            have HFIN := hid (show lw x l = at' by
              have := HLA.out.2 (by omega)
              have := HLW.out
              omega)
            clear hp h0
            go_wp2_with fail
            go_quiet (fail)
            have HBk := hid (below_drewN' HBj.out nq)
            clear hcj HOj hcg
            generalize wj.drewN nq = wk at *
            clear hg0 hg1 hsub hwp i0' i1' hdp hc
            go_wp2_with fail
            have HOk := hid (HO.out.below HBk.out)
            have hck : wk.cell? ⟨bl, ol + i, none⟩ = some (.int .i64 x) := (HBk.out.cell (p := ⟨bl, ol + i, none⟩) HBL.out).trans hci
            by_cases hlt : at' < l.length
            · have hd8 : decide ((at' : Int) < (l.length : Int)) = true := by simp; omega
              have hd9 : decide (at' < l.length) = true := by simp; omega
              have hcg := HOk.out.at hlt
              have hwa : IntKind.i64.wrap (at' : Int) = (at' : Int) := IntWalk.i64_in _ (by omega)
              have HMEM := hid (lw_mem (x := x) HAS.out)
              rw [HFIN.out] at HMEM
              generalize l.getD at' 0 = y2 at *
              by_cases hyx : y2 = x
              · have hq : (y2 == x) = true := by rw [hyx]; simp
                have HINS := hid (show insX l x = l by unfold insX; rw [if_pos (HMEM.out.2 ⟨hlt, hyx⟩)])
                clear hyx
                go_quiet (fail)
                have HBn := hid (HB.out.trans ((below_drewN' HBk.out nq).mono HB.out.size))
                have HOn := hid (HO.out.below (below_drewN' HBk.out nq))
                go_wp2
                refine ⟨?_, ?measure⟩
                · exact ⟨i + 1, by omega, by go_num, g, cap, by rw [HNX.out, HINS.out], by rw [HNX.out, HINS.out]; exact HOn, HBn⟩
                case measure => simp [intOf]; omega
              · have hq : (y2 == x) = false := by rw [beq_eq_false_iff_ne]; exact hyx
                have HNM := hid (show ¬ x ∈ l from fun h => hyx (HMEM.out.1 h).2)
                clear hyx
                go_quiet (fail)
                have HBn := hid (below_drewN' HBk.out nq)
                clear hck hcg HOk
                generalize wk.drewN nq = wn at *
                go_wp2_with fail
                have HOn := hid (HO.out.below HBn.out)
                have hcn : wn.cell? ⟨bl, ol + i, none⟩ = some (.int .i64 x) := (HBn.out.cell (p := ⟨bl, ol + i, none⟩) HBL.out).trans hci
                have HINS := hid (show insX l x = l.take at' ++ x :: l.drop at' by unfold insX; rw [if_neg HNM.out, HFIN.out])
                have HLN := hid (show (insX l x).length = l.length + 1 by rw [HINS.out]; simp; omega)
                have HWn := hid (show w.heap.size ≤ wn.heap.size from Nat.le_trans HB.out.size HBn.out.size)
                have HBW := hid (show Below w.heap.size w wn from HB.out.trans (HBn.out.mono HB.out.size))
                have hbln : bl < wn.heap.size := Nat.lt_of_lt_of_le HBL.out HBn.out.size
                have HCP := HOn.out.cap
                have s0 : (0 : Int) ≤ (at' : Int) := by omega
                have s1 : (at' : Int) ≤ (cap : Int) := by omega
                have s2 : (at' : Int) ≤ (l.length : Int) := by omega
                have s3 : (l.length : Int) ≤ (cap : Int) := by omega
                have s4 : (0 : Int) ≤ (i : Int) := by omega
                have s5 : (i : Int) < (n : Int) := by omega
                have HE0 := hid (show (wn.alloc (.cells #[] 3)).ownsRow w.heap.size 3 1 (.slice (some ⟨wn.heap.size, 0, none⟩) 0 0) 0 [] from World.ownsRow_made (base := w.heap.size) (e := 3) (size := 1) wn #[] 0 HWn.out (by decide) rfl)
                have HE1 := hid (show ((wn.alloc (.cells #[.int .i64 x] 3)).alloc (.cells #[] 3)).ownsRow w.heap.size 3 1 (.slice (some ⟨wn.heap.size + 1, 0, none⟩) 0 0) 0 [] by
                  have h := World.ownsRow_made (base := w.heap.size) (e := 3) (size := 1) (wn.alloc (.cells #[.int .i64 x] 3)) #[] 0 (by rw [World.size_alloc]; have := HWn.out; omega) (by decide) rfl
                  rw [World.size_alloc] at h
                  exact h)
                have HX0 := hid (show (wn.alloc (.cells #[.int .i64 x] 3)).cell? ⟨wn.heap.size, 0, none⟩ = some (.int .i64 x) from (cell_of_row _ wn.heap.size 0 #[.int .i64 x] 3 (0, 0) (heap_alloc_new _ _)).trans (by rfl))
                have HX1 := hid (show ((wn.alloc (.cells #[] 3)).alloc (.cells #[.int .i64 x] 3)).cell? ⟨wn.heap.size + 1, 0, none⟩ = some (.int .i64 x) by
                  have h := (cell_of_row ((wn.alloc (.cells #[] 3)).alloc (.cells #[.int .i64 x] 3)) (wn.alloc (.cells #[] 3)).heap.size 0 #[.int .i64 x] 3 (0, 0) (heap_alloc_new _ _)).trans (show _ = some (Value.int .i64 x) by rfl)
                  rw [World.size_alloc] at h
                  exact h)
                obtain ⟨ad, had, HDC⟩ : ∃ ad, (if cap = at' then some (⟨g, 0, none⟩ : Addr) else some ⟨g, at', none⟩) = some ad ∧ Hid (∀ W : World, Below wn.heap.size wn W → ∀ j u, (ivL (l.drop at'))[j]? = some u → W.cell? (ad.add j) = some u) := by
                  by_cases hca : cap = at'
                  · refine ⟨⟨g, 0, none⟩, by rw [if_pos hca], hid fun W hW j u hu => ?_⟩
                    rw [List.drop_eq_nil_of_le (show l.length ≤ at' by omega)] at hu
                    simp [ivL] at hu
                  · exact ⟨⟨g, at', none⟩, by rw [if_neg hca], hid fun W hW => (HOn.out.below hW).drop at'⟩
                clear HO HBn HB hci HAS
                go_region_held3 (fun wx => wx.cell? ⟨bl, ol + i, none⟩ = some (.int .i64 x)) (exact ((show Below wn.heap.size wn _ from by (repeat' (first | (with_reducible exact Below.refl _ _) | (with_reducible refine Below.setCell ?_ ?_ _) | (with_reducible refine below_drewN' ?_ _) | (with_reducible refine below_drew' ?_) | (with_reducible refine Below.alloc ?_ ?_ _) | (with_reducible assumption) | go_size))).cell (p := ⟨bl, ol + i, none⟩) hbln).trans hcn)
                  (first
                      | (go_loud ((refine step_append_any (by rfl) _ _ 29 (by rfl) w.heap.size 3 i0 _ 1 8 Try.underlying29 hi0 hz0 hz1 hz2 rfl (by decide) wn.heap.size 0 0 [] (by rfl) (Nat.le_refl _) (by first | (simp only [World.size_alloc]; omega) | go_size) (own_blw HE0.out (by (repeat' (first | (with_reducible exact Below.refl _ _) | (with_reducible refine Below.setCell ?_ ?_ _) | (with_reducible refine below_drewN' ?_ _) | (with_reducible refine below_drew' ?_) | (with_reducible refine Below.alloc ?_ ?_ _) | (with_reducible assumption) | go_size)))) _ at' _ (ivL (l.take at')) (by rfl) (by simp [ivL]; omega) ((HOn.out.below (by (repeat' (first | (with_reducible exact Below.refl _ _) | (with_reducible refine Below.setCell ?_ ?_ _) | (with_reducible refine below_drewN' ?_ _) | (with_reducible refine below_drew' ?_) | (with_reducible refine Below.alloc ?_ ?_ _) | (with_reducible assumption) | go_size)))).take at') (ivL_one _) at' (by omega) (ivL (l.take at')) (by rfl) (by unfold maxLen; omega) (by omega) (by simp; have := HWn.out; omega) (wn.heap.size + 1) ?_ ?_); (simp <;> fail); intro g3 cap3 w3 hown3 hgrow3 hat3 hlt3 hcap3; have hb3 : Below wn.heap.size wn w3 := Below.grown (by (repeat' (first | (with_reducible exact Below.refl _ _) | (with_reducible refine Below.setCell ?_ ?_ _) | (with_reducible refine below_drewN' ?_ _) | (with_reducible refine below_drew' ?_) | (with_reducible refine Below.alloc ?_ ?_ _) | (with_reducible assumption) | go_size))) hgrow3 (by first | (simp only [World.size_alloc]; omega) | go_size) (fun j hj => by injection hj; omega); have HO3 := hid hown3; have hge3 : wn.heap.size ≤ g3 := (by omega); clear hown3 hgrow3 hat3))
                      | (go_loud ((refine step_append_any (by rfl) _ _ 29 (by rfl) w.heap.size 3 i0 _ 1 8 Try.underlying29 hi0 hz0 hz1 hz2 rfl (by decide) wn.heap.size 0 0 [] (by rfl) (Nat.le_refl _) (by first | (simp only [World.size_alloc]; omega) | go_size) (own_blw HE0.out (by (repeat' (first | (with_reducible exact Below.refl _ _) | (with_reducible refine Below.setCell ?_ ?_ _) | (with_reducible refine below_drewN' ?_ _) | (with_reducible refine below_drew' ?_) | (with_reducible refine Below.alloc ?_ ?_ _) | (with_reducible assumption) | go_size)))) _ at' _ (ivL (l.take at')) (by rfl) (by simp [ivL]; omega) ((HOn.out.below (by (repeat' (first | (with_reducible exact Below.refl _ _) | (with_reducible refine Below.setCell ?_ ?_ _) | (with_reducible refine below_drewN' ?_ _) | (with_reducible refine below_drew' ?_) | (with_reducible refine Below.alloc ?_ ?_ _) | (with_reducible assumption) | go_size)))).take at') (ivL_one _) at' (by omega) (ivL (l.take at')) (by rfl) (by unfold maxLen; omega) (by omega) (by simp; have := HWn.out; omega) (wn.heap.size + 1 + 1) ?_ ?_); (simp <;> fail); intro g3 cap3 w3 hown3 hgrow3 hat3 hlt3 hcap3; have hb3 : Below wn.heap.size wn w3 := Below.grown (by (repeat' (first | (with_reducible exact Below.refl _ _) | (with_reducible refine Below.setCell ?_ ?_ _) | (with_reducible refine below_drewN' ?_ _) | (with_reducible refine below_drew' ?_) | (with_reducible refine Below.alloc ?_ ?_ _) | (with_reducible assumption) | go_size))) hgrow3 (by first | (simp only [World.size_alloc]; omega) | go_size) (fun j hj => by injection hj; omega); have HO3 := hid hown3; have hge3 : wn.heap.size ≤ g3 := (by omega); have HX3 := hid (show w3.cell? ⟨wn.heap.size + 1, 0, none⟩ = some (.int .i64 x) from (hgrow3.cell_far ⟨wn.heap.size + 1, 0, none⟩ (show wn.heap.size + 1 < _ from by first | (simp only [World.size_alloc]; omega) | go_size) (show some (wn.heap.size + 1) ≠ some wn.heap.size from fun e => by injection e; omega)).trans HX1.out); clear hown3 hgrow3 hat3))
                      | (go_loud ((refine step_append_any (by rfl) _ _ 29 (by rfl) w.heap.size 3 i0 _ 1 8 Try.underlying29 hi0 hz0 hz1 hz2 rfl (by decide) (wn.heap.size + 1) 0 0 [] (by rfl) (Nat.le_refl _) (by first | (simp only [World.size_alloc]; omega) | go_size) (own_blw HE1.out (by (repeat' (first | (with_reducible exact Below.refl _ _) | (with_reducible refine Below.setCell ?_ ?_ _) | (with_reducible refine below_drewN' ?_ _) | (with_reducible refine below_drew' ?_) | (with_reducible refine Below.alloc ?_ ?_ _) | (with_reducible assumption) | go_size)))) _ at' _ (ivL (l.take at')) (by rfl) (by simp [ivL]; omega) ((HOn.out.below (by (repeat' (first | (with_reducible exact Below.refl _ _) | (with_reducible refine Below.setCell ?_ ?_ _) | (with_reducible refine below_drewN' ?_ _) | (with_reducible refine below_drew' ?_) | (with_reducible refine Below.alloc ?_ ?_ _) | (with_reducible assumption) | go_size)))).take at') (ivL_one _) at' (by omega) (ivL (l.take at')) (by rfl) (by unfold maxLen; omega) (by omega) (by simp; have := HWn.out; omega) (wn.heap.size + 1 + 1) ?_ ?_); (simp <;> fail); intro g3 cap3 w3 hown3 hgrow3 hat3 hlt3 hcap3; have hb3 : Below wn.heap.size wn w3 := Below.grown (by (repeat' (first | (with_reducible exact Below.refl _ _) | (with_reducible refine Below.setCell ?_ ?_ _) | (with_reducible refine below_drewN' ?_ _) | (with_reducible refine below_drew' ?_) | (with_reducible refine Below.alloc ?_ ?_ _) | (with_reducible assumption) | go_size))) hgrow3 (by first | (simp only [World.size_alloc]; omega) | go_size) (fun j hj => by injection hj; omega); have HO3 := hid hown3; have hge3 : wn.heap.size ≤ g3 := (by omega); have HX3 := hid (show w3.cell? ⟨wn.heap.size, 0, none⟩ = some (.int .i64 x) from (hgrow3.cell_far ⟨wn.heap.size, 0, none⟩ (show wn.heap.size < _ from by first | (simp only [World.size_alloc]; omega) | go_size) (show some wn.heap.size ≠ some (wn.heap.size + 1) from fun e => by injection e; omega)).trans (((show Below (wn.alloc (.cells #[.int .i64 x] 3)).heap.size (wn.alloc (.cells #[.int .i64 x] 3)) _ from by (repeat' (first | (with_reducible exact Below.refl _ _) | (with_reducible refine Below.setCell ?_ ?_ _) | (with_reducible refine below_drewN' ?_ _) | (with_reducible refine below_drew' ?_) | (with_reducible refine Below.alloc ?_ ?_ _) | (with_reducible assumption) | go_size))).cell (p := ⟨wn.heap.size, 0, none⟩) (show wn.heap.size < _ from by first | (simp only [World.size_alloc]; omega) | go_size)).trans HX0.out)); clear hown3 hgrow3 hat3))
                      | (go_loud ((refine step_append_any (by rfl) _ _ 29 (by rfl) w.heap.size 3 i0 _ 1 8 Try.underlying29 hi0 hz0 hz1 hz2 rfl (by decide) g3 at' cap3 (ivL (l.take at')) (by rfl) hcap3 (by first | omega | (simp; omega)) (own_blw HO3.out (by (repeat' (first | (with_reducible exact Below.refl _ _) | (with_reducible refine Below.setCell ?_ ?_ _) | (with_reducible refine below_drewN' ?_ _) | (with_reducible refine below_drew' ?_) | (with_reducible refine Below.alloc ?_ ?_ _) | (with_reducible assumption) | go_size)))) _ 1 _ [.int .i64 x] (by rfl) (by rfl) (World.news_of_block (cs := #[.int .i64 x]) (t := 3) (fr := (0, 0)) (heap_alloc_new _ _)) (by intro u hu; simp at hu; subst hu; rfl) (at' + 1) (by rfl) (ivL (l.take at' ++ [x])) (ivL_app (l.take at') [x]) (by unfold maxLen; omega) (by omega) (by have := HWn.out; have := hb3.size; first | omega | (simp; omega)) _ rfl ?_); intro g4 cap4 w4 hown4 hgrow4 hat4 hlt4 hcap4; have hb4 : Below wn.heap.size wn w4 := Below.grown (by (repeat' (first | (with_reducible exact Below.refl _ _) | (with_reducible refine Below.setCell ?_ ?_ _) | (with_reducible refine below_drewN' ?_ _) | (with_reducible refine below_drew' ?_) | (with_reducible refine Below.alloc ?_ ?_ _) | (with_reducible assumption) | go_size))) hgrow4 (by have := hb3.size; first | omega | (simp; omega)) (fun j hj => by injection hj; omega); have HO4 := hid hown4; have hge4 : wn.heap.size ≤ g4 := (by have := hb3.size; (try simp only [World.size_alloc] at hat4); omega); clear hown4 hgrow4 hat4))
                      | (go_loud ((refine step_append_any (by rfl) _ _ 29 (by rfl) w.heap.size 3 i0 _ 1 8 Try.underlying29 hi0 hz0 hz1 hz2 rfl (by decide) g3 at' cap3 (ivL (l.take at')) (by rfl) hcap3 (by first | omega | (simp; omega)) (own_blw HO3.out (by (repeat' (first | (with_reducible exact Below.refl _ _) | (with_reducible refine Below.setCell ?_ ?_ _) | (with_reducible refine below_drewN' ?_ _) | (with_reducible refine below_drew' ?_) | (with_reducible refine Below.alloc ?_ ?_ _) | (with_reducible assumption) | go_size)))) _ 1 _ [.int .i64 x] (by rfl) (by rfl) (news_of_one HX3.out) (by intro u hu; simp at hu; subst hu; rfl) (at' + 1) (by rfl) (ivL (l.take at' ++ [x])) (ivL_app (l.take at') [x]) (by unfold maxLen; omega) (by omega) (by have := HWn.out; have := hb3.size; first | omega | (simp; omega)) _ rfl ?_); intro g4 cap4 w4 hown4 hgrow4 hat4 hlt4 hcap4; have hb4 : Below wn.heap.size wn w4 := Below.grown (by (repeat' (first | (with_reducible exact Below.refl _ _) | (with_reducible refine Below.setCell ?_ ?_ _) | (with_reducible refine below_drewN' ?_ _) | (with_reducible refine below_drew' ?_) | (with_reducible refine Below.alloc ?_ ?_ _) | (with_reducible assumption) | go_size))) hgrow4 (by have := hb3.size; first | omega | (simp; omega)) (fun j hj => by injection hj; omega); have HO4 := hid hown4; have hge4 : wn.heap.size ≤ g4 := (by have := hb3.size; (try simp only [World.size_alloc] at hat4); omega); clear hown4 hgrow4 hat4))
                      | ((refine step_append_any (by rfl) _ _ 29 (by rfl) w.heap.size 3 i0 _ 1 8 Try.underlying29 hi0 hz0 hz1 hz2 rfl (by decide) g4 (at' + 1) cap4 (ivL (l.take at' ++ [x])) (by rfl) hcap4 hlt4 HO4.out ad (l.length - at') (cap - at') (ivL (l.drop at')) (by first | rfl | ((conv => lhs; whnf); rw [had])) (by first | (simp [ivL]; done) | (simp [ivL]; omega)) (HDC.out _ (by (repeat' (first | (with_reducible exact Below.refl _ _) | (with_reducible refine Below.setCell ?_ ?_ _) | (with_reducible refine below_drewN' ?_ _) | (with_reducible refine below_drew' ?_) | (with_reducible refine Below.alloc ?_ ?_ _) | (with_reducible assumption) | go_size)))) (ivL_one _) (insX l x).length (by have := HLN.out; omega) (ivL (insX l x)) (by simp [HINS.out, ivL]) (by have := HLN.out; unfold maxLen; omega) (by have := HLN.out; omega) (by have := HWn.out; have := hb4.size; omega) w4.heap.size rfl ?_); intro g5 cap5 w5 hown5 hgrow5 hat5 hlt5 hcap5; have hb5 : Below wn.heap.size wn w5 := Below.grown hb4 hgrow5 hb4.size (fun j hj => by injection hj; omega); have HO5 := hid hown5; have hge5 : wn.heap.size ≤ g5 := (by have := hb4.size; omega); clear hown5 hgrow5 hat5))
                all_goals
                  have HBz := hid (HBW.out.trans (hb5.mono HWn.out))
                  have HOz := hid (show Oq w.heap.size w5 (insX l x) g5 cap5 from ⟨HO5.out, hcap5, hlt5, Nat.le_trans HWn.out hge5⟩)
                  go_wp2
                  refine ⟨?_, ?measure⟩
                  · exact ⟨i + 1, by omega, by go_num, g5, cap5, by rw [HNX.out], by rw [HNX.out]; exact HOz, HBz⟩
                  case measure => simp [intOf]; omega
            · have hd8 : decide ((at' : Int) < (l.length : Int)) = false := by simp; omega
              have hd9 : decide (at' < l.length) = false := by simp; omega
              have HNM := hid (show ¬ x ∈ l from fun h => by
                have := ((lw_mem (x := x) HAS.out).1 h).1
                rw [HFIN.out] at this
                omega)
              go_quiet (fail)
              have HBn := hid (below_drewN' HBk.out nq)
              clear hck HOk
              generalize wk.drewN nq = wn at *
              go_wp2_with fail
              have HOn := hid (HO.out.below HBn.out)
              have hcn : wn.cell? ⟨bl, ol + i, none⟩ = some (.int .i64 x) := (HBn.out.cell (p := ⟨bl, ol + i, none⟩) HBL.out).trans hci
              have HINS := hid (show insX l x = l.take at' ++ x :: l.drop at' by unfold insX; rw [if_neg HNM.out, HFIN.out])
              have HLN := hid (show (insX l x).length = l.length + 1 by rw [HINS.out]; simp; omega)
              have HWn := hid (show w.heap.size ≤ wn.heap.size from Nat.le_trans HB.out.size HBn.out.size)
              have HBW := hid (show Below w.heap.size w wn from HB.out.trans (HBn.out.mono HB.out.size))
              have hbln : bl < wn.heap.size := Nat.lt_of_lt_of_le HBL.out HBn.out.size
              have HCP := HOn.out.cap
              have s0 : (0 : Int) ≤ (at' : Int) := by omega
              have s1 : (at' : Int) ≤ (cap : Int) := by omega
              have s2 : (at' : Int) ≤ (l.length : Int) := by omega
              have s3 : (l.length : Int) ≤ (cap : Int) := by omega
              have s4 : (0 : Int) ≤ (i : Int) := by omega
              have s5 : (i : Int) < (n : Int) := by omega
              have HE0 := hid (show (wn.alloc (.cells #[] 3)).ownsRow w.heap.size 3 1 (.slice (some ⟨wn.heap.size, 0, none⟩) 0 0) 0 [] from World.ownsRow_made (base := w.heap.size) (e := 3) (size := 1) wn #[] 0 HWn.out (by decide) rfl)
              have HE1 := hid (show ((wn.alloc (.cells #[.int .i64 x] 3)).alloc (.cells #[] 3)).ownsRow w.heap.size 3 1 (.slice (some ⟨wn.heap.size + 1, 0, none⟩) 0 0) 0 [] by
                have h := World.ownsRow_made (base := w.heap.size) (e := 3) (size := 1) (wn.alloc (.cells #[.int .i64 x] 3)) #[] 0 (by rw [World.size_alloc]; have := HWn.out; omega) (by decide) rfl
                rw [World.size_alloc] at h
                exact h)
              have HX0 := hid (show (wn.alloc (.cells #[.int .i64 x] 3)).cell? ⟨wn.heap.size, 0, none⟩ = some (.int .i64 x) from (cell_of_row _ wn.heap.size 0 #[.int .i64 x] 3 (0, 0) (heap_alloc_new _ _)).trans (by rfl))
              have HX1 := hid (show ((wn.alloc (.cells #[] 3)).alloc (.cells #[.int .i64 x] 3)).cell? ⟨wn.heap.size + 1, 0, none⟩ = some (.int .i64 x) by
                have h := (cell_of_row ((wn.alloc (.cells #[] 3)).alloc (.cells #[.int .i64 x] 3)) (wn.alloc (.cells #[] 3)).heap.size 0 #[.int .i64 x] 3 (0, 0) (heap_alloc_new _ _)).trans (show _ = some (Value.int .i64 x) by rfl)
                rw [World.size_alloc] at h
                exact h)
              obtain ⟨ad, had, HDC⟩ : ∃ ad, (if cap = at' then some (⟨g, 0, none⟩ : Addr) else some ⟨g, at', none⟩) = some ad ∧ Hid (∀ W : World, Below wn.heap.size wn W → ∀ j u, (ivL (l.drop at'))[j]? = some u → W.cell? (ad.add j) = some u) := by
                by_cases hca : cap = at'
                · refine ⟨⟨g, 0, none⟩, by rw [if_pos hca], hid fun W hW j u hu => ?_⟩
                  rw [List.drop_eq_nil_of_le (show l.length ≤ at' by omega)] at hu
                  simp [ivL] at hu
                · exact ⟨⟨g, at', none⟩, by rw [if_neg hca], hid fun W hW => (HOn.out.below hW).drop at'⟩
              clear HO HBn HB hci HAS
              go_region_held3 (fun wx => wx.cell? ⟨bl, ol + i, none⟩ = some (.int .i64 x)) (exact ((show Below wn.heap.size wn _ from by (repeat' (first | (with_reducible exact Below.refl _ _) | (with_reducible refine Below.setCell ?_ ?_ _) | (with_reducible refine below_drewN' ?_ _) | (with_reducible refine below_drew' ?_) | (with_reducible refine Below.alloc ?_ ?_ _) | (with_reducible assumption) | go_size))).cell (p := ⟨bl, ol + i, none⟩) hbln).trans hcn)
                (first
                    | (go_loud ((refine step_append_any (by rfl) _ _ 29 (by rfl) w.heap.size 3 i0 _ 1 8 Try.underlying29 hi0 hz0 hz1 hz2 rfl (by decide) wn.heap.size 0 0 [] (by rfl) (Nat.le_refl _) (by first | (simp only [World.size_alloc]; omega) | go_size) (own_blw HE0.out (by (repeat' (first | (with_reducible exact Below.refl _ _) | (with_reducible refine Below.setCell ?_ ?_ _) | (with_reducible refine below_drewN' ?_ _) | (with_reducible refine below_drew' ?_) | (with_reducible refine Below.alloc ?_ ?_ _) | (with_reducible assumption) | go_size)))) _ at' _ (ivL (l.take at')) (by rfl) (by simp [ivL]; omega) ((HOn.out.below (by (repeat' (first | (with_reducible exact Below.refl _ _) | (with_reducible refine Below.setCell ?_ ?_ _) | (with_reducible refine below_drewN' ?_ _) | (with_reducible refine below_drew' ?_) | (with_reducible refine Below.alloc ?_ ?_ _) | (with_reducible assumption) | go_size)))).take at') (ivL_one _) at' (by omega) (ivL (l.take at')) (by rfl) (by unfold maxLen; omega) (by omega) (by simp; have := HWn.out; omega) (wn.heap.size + 1) ?_ ?_); (simp <;> fail); intro g3 cap3 w3 hown3 hgrow3 hat3 hlt3 hcap3; have hb3 : Below wn.heap.size wn w3 := Below.grown (by (repeat' (first | (with_reducible exact Below.refl _ _) | (with_reducible refine Below.setCell ?_ ?_ _) | (with_reducible refine below_drewN' ?_ _) | (with_reducible refine below_drew' ?_) | (with_reducible refine Below.alloc ?_ ?_ _) | (with_reducible assumption) | go_size))) hgrow3 (by first | (simp only [World.size_alloc]; omega) | go_size) (fun j hj => by injection hj; omega); have HO3 := hid hown3; have hge3 : wn.heap.size ≤ g3 := (by omega); clear hown3 hgrow3 hat3))
                    | (go_loud ((refine step_append_any (by rfl) _ _ 29 (by rfl) w.heap.size 3 i0 _ 1 8 Try.underlying29 hi0 hz0 hz1 hz2 rfl (by decide) wn.heap.size 0 0 [] (by rfl) (Nat.le_refl _) (by first | (simp only [World.size_alloc]; omega) | go_size) (own_blw HE0.out (by (repeat' (first | (with_reducible exact Below.refl _ _) | (with_reducible refine Below.setCell ?_ ?_ _) | (with_reducible refine below_drewN' ?_ _) | (with_reducible refine below_drew' ?_) | (with_reducible refine Below.alloc ?_ ?_ _) | (with_reducible assumption) | go_size)))) _ at' _ (ivL (l.take at')) (by rfl) (by simp [ivL]; omega) ((HOn.out.below (by (repeat' (first | (with_reducible exact Below.refl _ _) | (with_reducible refine Below.setCell ?_ ?_ _) | (with_reducible refine below_drewN' ?_ _) | (with_reducible refine below_drew' ?_) | (with_reducible refine Below.alloc ?_ ?_ _) | (with_reducible assumption) | go_size)))).take at') (ivL_one _) at' (by omega) (ivL (l.take at')) (by rfl) (by unfold maxLen; omega) (by omega) (by simp; have := HWn.out; omega) (wn.heap.size + 1 + 1) ?_ ?_); (simp <;> fail); intro g3 cap3 w3 hown3 hgrow3 hat3 hlt3 hcap3; have hb3 : Below wn.heap.size wn w3 := Below.grown (by (repeat' (first | (with_reducible exact Below.refl _ _) | (with_reducible refine Below.setCell ?_ ?_ _) | (with_reducible refine below_drewN' ?_ _) | (with_reducible refine below_drew' ?_) | (with_reducible refine Below.alloc ?_ ?_ _) | (with_reducible assumption) | go_size))) hgrow3 (by first | (simp only [World.size_alloc]; omega) | go_size) (fun j hj => by injection hj; omega); have HO3 := hid hown3; have hge3 : wn.heap.size ≤ g3 := (by omega); have HX3 := hid (show w3.cell? ⟨wn.heap.size + 1, 0, none⟩ = some (.int .i64 x) from (hgrow3.cell_far ⟨wn.heap.size + 1, 0, none⟩ (show wn.heap.size + 1 < _ from by first | (simp only [World.size_alloc]; omega) | go_size) (show some (wn.heap.size + 1) ≠ some wn.heap.size from fun e => by injection e; omega)).trans HX1.out); clear hown3 hgrow3 hat3))
                    | (go_loud ((refine step_append_any (by rfl) _ _ 29 (by rfl) w.heap.size 3 i0 _ 1 8 Try.underlying29 hi0 hz0 hz1 hz2 rfl (by decide) (wn.heap.size + 1) 0 0 [] (by rfl) (Nat.le_refl _) (by first | (simp only [World.size_alloc]; omega) | go_size) (own_blw HE1.out (by (repeat' (first | (with_reducible exact Below.refl _ _) | (with_reducible refine Below.setCell ?_ ?_ _) | (with_reducible refine below_drewN' ?_ _) | (with_reducible refine below_drew' ?_) | (with_reducible refine Below.alloc ?_ ?_ _) | (with_reducible assumption) | go_size)))) _ at' _ (ivL (l.take at')) (by rfl) (by simp [ivL]; omega) ((HOn.out.below (by (repeat' (first | (with_reducible exact Below.refl _ _) | (with_reducible refine Below.setCell ?_ ?_ _) | (with_reducible refine below_drewN' ?_ _) | (with_reducible refine below_drew' ?_) | (with_reducible refine Below.alloc ?_ ?_ _) | (with_reducible assumption) | go_size)))).take at') (ivL_one _) at' (by omega) (ivL (l.take at')) (by rfl) (by unfold maxLen; omega) (by omega) (by simp; have := HWn.out; omega) (wn.heap.size + 1 + 1) ?_ ?_); (simp <;> fail); intro g3 cap3 w3 hown3 hgrow3 hat3 hlt3 hcap3; have hb3 : Below wn.heap.size wn w3 := Below.grown (by (repeat' (first | (with_reducible exact Below.refl _ _) | (with_reducible refine Below.setCell ?_ ?_ _) | (with_reducible refine below_drewN' ?_ _) | (with_reducible refine below_drew' ?_) | (with_reducible refine Below.alloc ?_ ?_ _) | (with_reducible assumption) | go_size))) hgrow3 (by first | (simp only [World.size_alloc]; omega) | go_size) (fun j hj => by injection hj; omega); have HO3 := hid hown3; have hge3 : wn.heap.size ≤ g3 := (by omega); have HX3 := hid (show w3.cell? ⟨wn.heap.size, 0, none⟩ = some (.int .i64 x) from (hgrow3.cell_far ⟨wn.heap.size, 0, none⟩ (show wn.heap.size < _ from by first | (simp only [World.size_alloc]; omega) | go_size) (show some wn.heap.size ≠ some (wn.heap.size + 1) from fun e => by injection e; omega)).trans (((show Below (wn.alloc (.cells #[.int .i64 x] 3)).heap.size (wn.alloc (.cells #[.int .i64 x] 3)) _ from by (repeat' (first | (with_reducible exact Below.refl _ _) | (with_reducible refine Below.setCell ?_ ?_ _) | (with_reducible refine below_drewN' ?_ _) | (with_reducible refine below_drew' ?_) | (with_reducible refine Below.alloc ?_ ?_ _) | (with_reducible assumption) | go_size))).cell (p := ⟨wn.heap.size, 0, none⟩) (show wn.heap.size < _ from by first | (simp only [World.size_alloc]; omega) | go_size)).trans HX0.out)); clear hown3 hgrow3 hat3))
                    | (go_loud ((refine step_append_any (by rfl) _ _ 29 (by rfl) w.heap.size 3 i0 _ 1 8 Try.underlying29 hi0 hz0 hz1 hz2 rfl (by decide) g3 at' cap3 (ivL (l.take at')) (by rfl) hcap3 (by first | omega | (simp; omega)) (own_blw HO3.out (by (repeat' (first | (with_reducible exact Below.refl _ _) | (with_reducible refine Below.setCell ?_ ?_ _) | (with_reducible refine below_drewN' ?_ _) | (with_reducible refine below_drew' ?_) | (with_reducible refine Below.alloc ?_ ?_ _) | (with_reducible assumption) | go_size)))) _ 1 _ [.int .i64 x] (by rfl) (by rfl) (World.news_of_block (cs := #[.int .i64 x]) (t := 3) (fr := (0, 0)) (heap_alloc_new _ _)) (by intro u hu; simp at hu; subst hu; rfl) (at' + 1) (by rfl) (ivL (l.take at' ++ [x])) (ivL_app (l.take at') [x]) (by unfold maxLen; omega) (by omega) (by have := HWn.out; have := hb3.size; first | omega | (simp; omega)) _ rfl ?_); intro g4 cap4 w4 hown4 hgrow4 hat4 hlt4 hcap4; have hb4 : Below wn.heap.size wn w4 := Below.grown (by (repeat' (first | (with_reducible exact Below.refl _ _) | (with_reducible refine Below.setCell ?_ ?_ _) | (with_reducible refine below_drewN' ?_ _) | (with_reducible refine below_drew' ?_) | (with_reducible refine Below.alloc ?_ ?_ _) | (with_reducible assumption) | go_size))) hgrow4 (by have := hb3.size; first | omega | (simp; omega)) (fun j hj => by injection hj; omega); have HO4 := hid hown4; have hge4 : wn.heap.size ≤ g4 := (by have := hb3.size; (try simp only [World.size_alloc] at hat4); omega); clear hown4 hgrow4 hat4))
                    | (go_loud ((refine step_append_any (by rfl) _ _ 29 (by rfl) w.heap.size 3 i0 _ 1 8 Try.underlying29 hi0 hz0 hz1 hz2 rfl (by decide) g3 at' cap3 (ivL (l.take at')) (by rfl) hcap3 (by first | omega | (simp; omega)) (own_blw HO3.out (by (repeat' (first | (with_reducible exact Below.refl _ _) | (with_reducible refine Below.setCell ?_ ?_ _) | (with_reducible refine below_drewN' ?_ _) | (with_reducible refine below_drew' ?_) | (with_reducible refine Below.alloc ?_ ?_ _) | (with_reducible assumption) | go_size)))) _ 1 _ [.int .i64 x] (by rfl) (by rfl) (news_of_one HX3.out) (by intro u hu; simp at hu; subst hu; rfl) (at' + 1) (by rfl) (ivL (l.take at' ++ [x])) (ivL_app (l.take at') [x]) (by unfold maxLen; omega) (by omega) (by have := HWn.out; have := hb3.size; first | omega | (simp; omega)) _ rfl ?_); intro g4 cap4 w4 hown4 hgrow4 hat4 hlt4 hcap4; have hb4 : Below wn.heap.size wn w4 := Below.grown (by (repeat' (first | (with_reducible exact Below.refl _ _) | (with_reducible refine Below.setCell ?_ ?_ _) | (with_reducible refine below_drewN' ?_ _) | (with_reducible refine below_drew' ?_) | (with_reducible refine Below.alloc ?_ ?_ _) | (with_reducible assumption) | go_size))) hgrow4 (by have := hb3.size; first | omega | (simp; omega)) (fun j hj => by injection hj; omega); have HO4 := hid hown4; have hge4 : wn.heap.size ≤ g4 := (by have := hb3.size; (try simp only [World.size_alloc] at hat4); omega); clear hown4 hgrow4 hat4))
                    | ((refine step_append_any (by rfl) _ _ 29 (by rfl) w.heap.size 3 i0 _ 1 8 Try.underlying29 hi0 hz0 hz1 hz2 rfl (by decide) g4 (at' + 1) cap4 (ivL (l.take at' ++ [x])) (by rfl) hcap4 hlt4 HO4.out ad (l.length - at') (cap - at') (ivL (l.drop at')) (by first | rfl | ((conv => lhs; whnf); rw [had])) (by first | (simp [ivL]; done) | (simp [ivL]; omega)) (HDC.out _ (by (repeat' (first | (with_reducible exact Below.refl _ _) | (with_reducible refine Below.setCell ?_ ?_ _) | (with_reducible refine below_drewN' ?_ _) | (with_reducible refine below_drew' ?_) | (with_reducible refine Below.alloc ?_ ?_ _) | (with_reducible assumption) | go_size)))) (ivL_one _) (insX l x).length (by have := HLN.out; omega) (ivL (insX l x)) (by simp [HINS.out, ivL]) (by have := HLN.out; unfold maxLen; omega) (by have := HLN.out; omega) (by have := HWn.out; have := hb4.size; omega) w4.heap.size rfl ?_); intro g5 cap5 w5 hown5 hgrow5 hat5 hlt5 hcap5; have hb5 : Below wn.heap.size wn w5 := Below.grown hb4 hgrow5 hb4.size (fun j hj => by injection hj; omega); have HO5 := hid hown5; have hge5 : wn.heap.size ≤ g5 := (by have := hb4.size; omega); clear hown5 hgrow5 hat5))
              all_goals
                have HBz := hid (HBW.out.trans (hb5.mono HWn.out))
                have HOz := hid (show Oq w.heap.size w5 (insX l x) g5 cap5 from ⟨HO5.out, hcap5, hlt5, Nat.le_trans HWn.out hge5⟩)
                go_wp2
                refine ⟨?_, ?measure⟩
                · exact ⟨i + 1, by omega, by go_num, g5, cap5, by rw [HNX.out], by rw [HNX.out]; exact HOz, HBz⟩
                case measure => simp [intOf]; omega
    · obtain rfl : i = n := by omega
      have hdi : decide ((i : Int) < (i : Int)) = false := by simp
      go_wp2_with fail
      go_ret
      exact ⟨⟨_, _, rfl, HO.out⟩, HB.out⟩
end Go.Proofs.Ytmdgkhebefnfeab.C
