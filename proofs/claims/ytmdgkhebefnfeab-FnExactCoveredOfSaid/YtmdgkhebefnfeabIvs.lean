/- Slices of intervals: those that came in, copies of them, comparing and marking them, and whether they are a plan. -/
import Derived.Test.YtmdgkhebefnfeabTwo
import Derived.Test.YtmdgkhebefnfeabInts
import Derived.Deep.SlicePairs
import Derived.OwnWalk
import Derived.Laws.OwnMore
import Derived.Deep.RegionHeld3
namespace Go.Proofs.Ytmdgkhebefnfeab.C
open Go.RowKit
set_option linter.unusedVariables false
set_option linter.unusedSimpArgs false
/-- A slice of intervals that came in. -/
def Row2 (w : World) (a : Option Addr) (len cap : Nat) (F T : Nat → Int) : Prop :=
  len ≤ cap ∧ cap ≤ maxLen ∧ (len = 0 ∨ ∃ b off, a = some ⟨b, off, none⟩ ∧ b < w.heap.size ∧ ∀ i, i < len → w.cell? ⟨b, off + i * 2, none⟩ = some (.int .i64 (F i)) ∧ w.cell? ⟨b, off + i * 2 + 1, none⟩ = some (.int .i64 (T i)) ∧
    (Lit.int .i64 (F i)).wf = true ∧ (Lit.int .i64 (T i)).wf = true)
theorem open_row2 {H : Type} {enc : TypeId × Value → H} {P : Program} {w : World} {base : Nat} {spare : Nat → Bool} {held : Bool} {t e : TypeId} {f0 f1 : Field} {fuel : Nat} {a : Option Addr} {len cap : Nat} {cs : List Value} {x : DataW H × List MemPlace}
    (ht : P.underlying t = some (.slice e)) (he : P.underlying e = some (.struct #[f0, f1])) (ce : P.cellsOf e = 2) (o0 : f0.offset = 0) (o1 : f1.offset = 1) (c0 : P.cellsOf f0.type = 1) (c1 : P.cellsOf f1.type = 1)
    (u0 : P.underlying f0.type = some (.int .i64)) (u1 : P.underlying f1.type = some (.int .i64)) (hcs : cs = [.slice a len cap]) (h : DataW.trod enc P w base spare held fuel t cs = some x) : ∃ F T, Row2 w a len cap F T := by
  subst hcs
  rcases Go.Deep.open_slice_pairs ht he ce o0 o1 c0 c1 h with ⟨hc, _⟩ | ⟨a', len', cap', m, k, V0, V1, D0, D1, P0, P1, hc, hb, hl, hm, hmm, hx, hall⟩
  · simp at hc
    obtain ⟨rfl, rfl, rfl⟩ := hc
    exact ⟨fun _ => 0, fun _ => 0, Nat.le_refl _, by unfold maxLen; omega, .inl rfl⟩
  · simp at hc
    obtain ⟨rfl, rfl, rfl⟩ := hc
    have hlm : len ≤ m := by rw [hmm]; split <;> omega
    by_cases hz : len = 0
    · exact ⟨fun _ => 0, fun _ => 0, hl, hm, .inl hz⟩
    · obtain ⟨b, off, spot⟩ := a'
      have hsp : spot = none := by
        have h0 := (hall 0 (by omega)).1
        simpa [Addr.add] using World.cell?_spot h0
      subst hsp
      have ha : ∀ j, (⟨b, off, none⟩ : Addr).add j = ⟨b, off + j, none⟩ := fun j => by unfold Addr.add; split <;> simp_all
      have each : ∀ i, i < len → ∃ q : Int × Int, w.cell? ⟨b, off + i * 2, none⟩ = some (.int .i64 q.1) ∧ w.cell? ⟨b, off + i * 2 + 1, none⟩ = some (.int .i64 q.2) ∧ (Lit.int .i64 q.1).wf = true ∧ (Lit.int .i64 q.2).wf = true := by
        intro i hi
        obtain ⟨h0, h1, h2, h3⟩ := hall i (by omega)
        obtain ⟨n0, e0, _, w0⟩ := DataW.trod_int u0 h2
        obtain ⟨n1, e1, _, w1⟩ := DataW.trod_int u1 h3
        simp at e0 e1
        rw [ha, e0] at h0
        rw [ha, e1] at h1
        exact ⟨(n0, n1), h0, h1, w0, w1⟩
      obtain ⟨q, hq⟩ := Go.Deep.choose_lt each
      exact ⟨fun i => (q i).1, fun i => (q i).2, hl, hm, .inr ⟨b, off, rfl, cell_lt (hq 0 (by omega)).1, hq⟩⟩
theorem Row2.below {w w' : World} {a : Option Addr} {len cap : Nat} {F T : Nat → Int} (h : Row2 w a len cap F T) (hb : Below w.heap.size w w') : Row2 w' a len cap F T := by
  obtain ⟨h1, h2, h3⟩ := h
  refine ⟨h1, h2, h3.imp id ?_⟩
  rintro ⟨b, off, rfl, hlt, hc⟩
  exact ⟨b, off, rfl, Nat.lt_of_lt_of_le hlt hb.size, fun i hi => by rw [hb.cell (p := ⟨b, off + i * 2, none⟩) hlt, hb.cell (p := ⟨b, off + i * 2 + 1, none⟩) hlt]; exact hc i hi⟩
theorem Row2.len {w : World} {a : Option Addr} {len cap : Nat} {F T : Nat → Int} (h : Row2 w a len cap F T) : len ≤ maxLen := Nat.le_trans h.1 h.2.1
theorem Row2.drewN {w : World} {a : Option Addr} {len cap : Nat} {F T : Nat → Int} (h : Row2 w a len cap F T) (m : Nat) : Row2 (w.drewN m) a len cap F T := h
/-- n intervals in a block of their own. -/
def Rv (w : World) (b n : Nat) (F T : Nat → Int) : Prop := b < w.heap.size ∧ ∀ i, i < n → w.cell? ⟨b, i * 2, none⟩ = some (.int .i64 (F i)) ∧ w.cell? ⟨b, i * 2 + 1, none⟩ = some (.int .i64 (T i))
def Fv (w : World) (b n : Nat) : Prop := ∀ i, i < n → w.frozen? ⟨b, i * 2, none⟩ = false ∧ w.frozen? ⟨b, i * 2 + 1, none⟩ = false
theorem Rv.below {w w' : World} {b n : Nat} {F T : Nat → Int} (h : Rv w b n F T) (hb : Below w.heap.size w w') : Rv w' b n F T :=
  ⟨Nat.lt_of_lt_of_le h.1 hb.size, fun i hi => by rw [hb.cell (p := ⟨b, i * 2, none⟩) h.1, hb.cell (p := ⟨b, i * 2 + 1, none⟩) h.1]; exact h.2 i hi⟩
theorem Rv.wr {w w' : World} {b n q : Nat} {F T : Nat → Int} (h : Rv w b n F T) (hW : Wr q w w') (hq : b ≠ q) : Rv w' b n F T :=
  ⟨Nat.lt_of_lt_of_le h.1 hW.size, fun i hi => by rw [hW.cell h.1 hq, hW.cell h.1 hq]; exact h.2 i hi⟩
theorem Rv.drewN {w : World} {b n : Nat} {F T : Nat → Int} (h : Rv w b n F T) (m : Nat) : Rv (w.drewN m) b n F T := h
theorem Fv.below {w w' : World} {b n : Nat} (h : Fv w b n) (hb : Below w.heap.size w w') (hlt : b < w.heap.size) : Fv w' b n :=
  fun i hi => by rw [hb.frozen (p := ⟨b, i * 2, none⟩) hlt, hb.frozen (p := ⟨b, i * 2 + 1, none⟩) hlt]; exact h i hi
theorem Fv.drewN {w : World} {b n : Nat} (h : Fv w b n) (m : Nat) : Fv (w.drewN m) b n := h
/-- A slice of n intervals: empty, or at the head of a block. -/
def Si (w : World) (v : Value) (n : Nat) (F T : Nat → Int) : Prop := (n = 0 ∧ ∃ a c, v = .slice a 0 c) ∨ ∃ b cap, v = .slice (some ⟨b, 0, none⟩) n cap ∧ n ≤ cap ∧ Rv w b n F T
theorem Rv.si {w : World} {b n cap : Nat} {F T : Nat → Int} (h : Rv w b n F T) (hc : n ≤ cap) : Si w (.slice (some ⟨b, 0, none⟩) n cap) n F T := .inr ⟨b, cap, rfl, hc, h⟩
theorem szIv_on (a : Option Addr) (len cap : Nat) (hl : len ≤ 1048576) (w : World) :
    Calls Try.prog 10 #[.slice a len cap, .int .i64 1048576] w fun e w' => e = .returned (.int .i64 (1048576 - (len : Int))) ∧ w = w' := by
  have h1 : decide ((1048576 : Int) < (len : Int)) = false := by simp; omega
  have h2 : ¬ ((1048576 : Int) - (len : Int) < 0) := by omega
  have HS := AllLt.start w; go_enter Try.func10, Try.ntmps10
  go_wp2
  go_ret
  exact ⟨rfl, rfl⟩
theorem szIv_off (a : Option Addr) (len cap : Nat) (hl : ¬ len ≤ 1048576) (hm : len ≤ maxLen) (w : World) :
    Calls Try.prog 10 #[.slice a len cap, .int .i64 1048576] w fun e w' => e = .returned (.int .i64 (-1)) ∧ w = w' := by
  unfold maxLen at hm
  have h2 : (1048576 : Int) - (len : Int) < 0 := by omega
  have h3 : (1048576 : Int) < (len : Int) := by omega
  have HS := AllLt.start w; go_enter Try.func10, Try.ntmps10
  go_wp2
  go_ret
  exact ⟨rfl, rfl⟩
theorem addr0 (b j : Nat) : (⟨b, 0, none⟩ : Addr).add j = ⟨b, j, none⟩ := by unfold Addr.add; split <;> simp_all
theorem ivInfo : (Try.prog.info? 41).map (fun i => (i.zero, i.size, i.bytes)) = some (some (.agg #[.int .i64 0, .int .i64 0]), 2, 16) := by kernel_rfl
/-- Block b after the first i of n intervals have been set. -/
structure Sv (b n i : Nat) (F T : Nat → Int) (w : World) : Prop where
  lt : b < w.heap.size
  done : ∀ j, j < i → w.cell? ⟨b, j * 2, none⟩ = some (.int .i64 (F j)) ∧ w.cell? ⟨b, j * 2 + 1, none⟩ = some (.int .i64 (T j))
  rest : ∀ j, j < n → (∃ v, w.cell? ⟨b, j * 2, none⟩ = some v) ∧ ∃ v, w.cell? ⟨b, j * 2 + 1, none⟩ = some v
  free : Fv w b n
theorem Sv.below {b n i : Nat} {F T : Nat → Int} {w w' : World} (h : Sv b n i F T w) (hb : Below w.heap.size w w') : Sv b n i F T w' := by
  have e : ∀ o, w'.cell? ⟨b, o, none⟩ = w.cell? ⟨b, o, none⟩ := fun o => hb.cell (p := ⟨b, o, none⟩) h.lt
  exact ⟨Nat.lt_of_lt_of_le h.lt hb.size, fun j hj => by rw [e, e]; exact h.done j hj, fun j hj => by rw [e, e]; exact h.rest j hj, h.free.below hb h.lt⟩
theorem Sv.set {b n i : Nat} {F T : Nat → Int} {w : World} (h : Sv b n i F T w) (hi : i < n) : Sv b n (i + 1) F T ((w.setCell ⟨b, i * 2, none⟩ (.int .i64 (F i))).setCell ⟨b, i * 2 + 1, none⟩ (.int .i64 (T i))) := by
  obtain ⟨⟨v0, h0⟩, ⟨v1, h1⟩⟩ := h.rest i hi
  refine ⟨by simpa using h.lt, fun j hj => ?_, fun j hj => ?_, fun j hj => ?_⟩
  · by_cases e : j = i
    · subst e
      constructor <;> simp [go_sem, h0, h1]
    · obtain ⟨d0, d1⟩ := h.done j (by omega)
      have e1 : ¬ i * 2 = j * 2 := by omega
      have e2 : ¬ i * 2 + 1 = j * 2 := by omega
      have e3 : ¬ i * 2 = j * 2 + 1 := by omega
      have e4 : ¬ i = j := fun h => e h.symm
      constructor <;> simp [go_sem, e1, e2, e3, e4, d0, d1]
  · by_cases e : j = i
    · subst e
      exact ⟨⟨_, by simp [go_sem, h0]; rfl⟩, ⟨_, by simp [go_sem, h1]; rfl⟩⟩
    · obtain ⟨⟨u0, d0⟩, ⟨u1, d1⟩⟩ := h.rest j hj
      have e1 : ¬ i * 2 = j * 2 := by omega
      have e2 : ¬ i * 2 + 1 = j * 2 := by omega
      have e3 : ¬ i * 2 = j * 2 + 1 := by omega
      have e4 : ¬ i = j := fun h => e h.symm
      exact ⟨⟨u0, by simp [go_sem, e1, e2, e4, d0]⟩, ⟨u1, by simp [go_sem, e3, e4, d1]⟩⟩
  · have := h.free j hj
    simpa [go_sem] using this
theorem below_set2 {B b : Nat} {w w' : World} (h : Below B w w') (hb : B ≤ b) (i k : Nat) (x y : Value) : Below B w ((w'.setCell ⟨b, i, none⟩ x).setCell ⟨b, k, none⟩ y) :=
  (h.setCell (p := ⟨b, i, none⟩) hb x).setCell (p := ⟨b, k, none⟩) hb y
set_option maxHeartbeats 1000000 in
theorem toIv_any (a : Option Addr) (len cap : Nat) (F T : Nat → Int) (hn : len ≤ 1048576) (w : World) (h : Row2 w a len cap F T) :
    Calls Try.prog 12 #[.slice a len cap] w fun e w' => ∃ b, e = .returned (.slice (some ⟨b, 0, none⟩) len len) ∧ w.heap.size ≤ b ∧ Rv w' b len F T ∧ Fv w' b len ∧ Below w.heap.size w w' := by
  obtain ⟨hl, hm, h3⟩ := h
  have H3 := hid h3
  clear h3
  obtain ⟨i0, hi0, hz0, hz1, hz2⟩ := info_parts ivInfo
  have HS := AllLt.start w; go_enter Try.func12, Try.ntmps12
  go_wp2_with (at_make; refine wpList_make_full _ rfl _ _ 25 rfl w.heap.size 41 i0 (.agg #[.int .i64 0, .int .i64 0]) 2 Try.underlying25 hi0 hz0 hz1 .i64 .i64 _ _ len rfl rfl rfl rfl (by rw [hz2]; omega) (by unfold maxLen; omega) (Nat.le_refl _) ?_; intro w1 hown hgrow)
  have HC0 : Hid (Sv w.heap.size len 0 F T w1 ∧ Below w.heap.size w w1) := hid (by
    refine ⟨?_, (Below.refl _ _).grown hgrow (Nat.le_refl _) (fun k hk => by cases hk)⟩
    rcases hown.2 with ⟨h, _⟩ | ⟨g, cap, cur, h1, h2, h3, h4, h5, h6, h7⟩
    · cases h
    · simp only [Value.slice.injEq, Option.some.injEq, Addr.mk.injEq, and_true] at h1
      obtain ⟨rfl, _, rfl⟩ := h1
      have each : ∀ o, o < len * 2 → ∃ v, w1.cell? ⟨w.heap.size, o, none⟩ = some v := fun o ho => ⟨cur[o]'(by omega), by simp [World.cell?, h3, show o < cur.size by omega]⟩
      exact ⟨(Array.getElem?_eq_some_iff.1 h3).1, fun j hj => by omega, fun j hj => ⟨each _ (by omega), each _ (by omega)⟩, fun j hj => ⟨by simp [World.frozen?, h3], by simp [World.frozen?, h3]⟩⟩)
  clear hown hgrow
  go_loopw [4] (fun i wr => ∃ k : Nat, k ≤ len ∧ i = .int .i64 k ∧ Hid (Sv w.heap.size len k F T wr ∧ Below w.heap.size w wr)) (fun i _ => len - (intOf i).toNat)
  case atStart => exact ⟨0, by omega, rfl, HC0⟩
  case round =>
    obtain ⟨k, hk, rfl, HK⟩ := hrel
    clear HS HC0
    obtain ⟨wi, rfl⟩ : ∃ wi : World, wi = wr := ⟨_, rfl⟩
    by_cases hlt : k < len
    · have hdi : decide ((k : Int) < (len : Int)) = true := by simp; omega
      have hdj : decide (k < len) = true := by simp; omega
      obtain ⟨b, off, rfl, hb, hc⟩ := H3.out.resolve_left (by omega)
      obtain ⟨c0, c1, _, _⟩ := hc k hlt
      have d0 : wi.cell? ⟨b, off + k * 2, none⟩ = _ := (HK.out.2.cell (p := ⟨b, off + k * 2, none⟩) hb).trans c0
      have d1 : wi.cell? ⟨b, off + k * 2 + 1, none⟩ = _ := (HK.out.2.cell (p := ⟨b, off + k * 2 + 1, none⟩) hb).trans c1
      clear c0 c1 hc
      go_wp2_with fail
      (with_reducible refine (toInterval_any _ _ _).mono ?_)
      rintro e w2 ⟨rfl, hb2⟩
      have HK2 : Hid (Sv w.heap.size len k F T w2 ∧ Below w.heap.size w w2) := hid ⟨HK.out.1.below hb2, HK.out.2.trans (hb2.mono HK.out.2.size)⟩
      clear hb2 HK d0 d1
      obtain ⟨⟨u0, c0⟩, ⟨u1, c1⟩⟩ := HK2.out.1.rest k hlt
      obtain ⟨f0, f1⟩ := HK2.out.1.free k hlt
      have HK3 : Hid (Sv w.heap.size len (k + 1) F T ((w2.setCell ⟨w.heap.size, k * 2, none⟩ (.int .i64 (F k))).setCell ⟨w.heap.size, k * 2 + 1, none⟩ (.int .i64 (T k))) ∧ Below w.heap.size w ((w2.setCell ⟨w.heap.size, k * 2, none⟩ (.int .i64 (F k))).setCell ⟨w.heap.size, k * 2 + 1, none⟩ (.int .i64 (T k)))) :=
        hid ⟨HK2.out.1.set hlt, below_set2 HK2.out.2 (Nat.le_refl _) _ _ _ _⟩
      clear HK2
      generalize F k = x at *
      generalize T k = y at *
      go_wp2
      go_roundw
      case rel => exact ⟨k + 1, by omega, by go_num, HK3⟩
      case measure => simp [intOf]; omega
    · obtain rfl : k = len := by omega
      have hdi : decide ((k : Int) < (k : Int)) = false := by simp
      go_wp2
      go_ret
      exact ⟨_, rfl, Nat.le_refl _, ⟨HK.out.1.lt, HK.out.1.done⟩, HK.out.1.free, HK.out.2⟩
theorem eqIv_zero (a a' : Option Addr) (c c' : Nat) (w : World) :
    Calls Try.prog 14 #[.slice a 0 c, .slice a' 0 c'] w fun e w' => e = .returned (.bool true) ∧ Below w.heap.size w w' := by
  have HS := AllLt.start w; go_enter Try.func14, Try.ntmps14
  go_wp2
  go_rounds 1
  go_ret
  exact ⟨rfl, Below.refl _ _⟩
set_option maxHeartbeats 1000000 in
theorem eqIv_row (b b' cap cap' n : Nat) (F T : Nat → Int) (w : World) (hn : n ≤ 4611686018427387904) (h1 : n ≤ cap) (h2 : n ≤ cap') (hc : Rv w b n F T) (hc' : Rv w b' n F T) :
    Calls Try.prog 14 #[.slice (some ⟨b, 0, none⟩) n cap, .slice (some ⟨b', 0, none⟩) n cap'] w fun e w' => e = .returned (.bool true) ∧ Below w.heap.size w w' := by
  have HC := hid hc
  have HD := hid hc'
  clear hc hc'
  have HS := AllLt.start w; go_enter Try.func14, Try.ntmps14
  go_wp2
  go_loopw [5] (fun v wr => ∃ k : Nat, k ≤ n ∧ v = .int .i64 k ∧ Hid (Below w.heap.size w wr)) (fun v _ => n - (intOf v).toNat)
  case atStart => exact ⟨0, by omega, rfl, hid (Below.refl _ _)⟩
  case round =>
    obtain ⟨k, hk, rfl, HB⟩ := hrel
    clear HS
    obtain ⟨wi, rfl⟩ : ∃ wi : World, wi = wr := ⟨_, rfl⟩
    by_cases hlt : k < n
    · obtain ⟨c0, c1⟩ := (HC.out.below HB.out).2 k hlt
      obtain ⟨d0, d1⟩ := (HD.out.below HB.out).2 k hlt
      have zb := (HC.out.below HB.out).1
      have zb' := (HD.out.below HB.out).1
      have hdi : decide ((k : Int) < (n : Int)) = true := by simp; omega
      have hdj : decide (k < n) = true := by simp; omega
      generalize F k = x at *
      generalize T k = y at *
      go_wp2_with fail
      go_region_held3 (fun w' => w'.cell? ⟨b, k * 2, none⟩ = some (.int .i64 x) ∧ w'.cell? ⟨b, k * 2 + 1, none⟩ = some (.int .i64 y) ∧ w'.cell? ⟨b', k * 2, none⟩ = some (.int .i64 x) ∧ w'.cell? ⟨b', k * 2 + 1, none⟩ = some (.int .i64 y))
        (first | exact ⟨by rw [HX.cell (p := ⟨b, k * 2, none⟩) zb]; exact c0, by rw [HX.cell (p := ⟨b, k * 2 + 1, none⟩) zb]; exact c1, by rw [HX.cell (p := ⟨b', k * 2, none⟩) zb']; exact d0, by rw [HX.cell (p := ⟨b', k * 2 + 1, none⟩) zb']; exact d1⟩ | exact ⟨c0, c1, d0, d1⟩ | go_keep)
        (first | (go_at_call 39; (with_reducible refine (eqInterval_same _ _ _).mono ?_); rintro e w2 ⟨rfl, hb⟩; obtain ⟨HX, hz0, hz, hcx, hfx⟩ := bst (w0 := wi) (by go_grown) hb; clear hb hz0 hz hcx hfx) | fail)
      all_goals
        have HY := hid (HB.out.trans (HX.mono HB.out.size))
        clear HX
        go_wp2
        go_roundw
        case rel => exact ⟨k + 1, by omega, by go_num, HY⟩
        case measure => simp [intOf]; omega
    · obtain rfl : k = n := by omega
      have hdi : decide ((k : Int) < (k : Int)) = false := by simp
      go_wp2
      go_ret
      exact ⟨rfl, HB.out⟩
theorem eqIv_same (v v' : Value) (n : Nat) (F T : Nat → Int) (w : World) (hn : n ≤ 4611686018427387904) (h : Si w v n F T) (h' : Si w v' n F T) :
    Calls Try.prog 14 #[v, v'] w fun e w' => e = .returned (.bool true) ∧ Below w.heap.size w w' := by
  by_cases hz : n = 0
  · obtain ⟨a, c, rfl⟩ : ∃ a c, v = .slice a 0 c := by
      rcases h with ⟨_, a, c, rfl⟩ | ⟨b, cap, rfl, _⟩
      · exact ⟨_, _, rfl⟩
      · exact ⟨_, _, by rw [hz]⟩
    obtain ⟨a', c', rfl⟩ : ∃ a c, v' = .slice a 0 c := by
      rcases h' with ⟨_, a, c, rfl⟩ | ⟨b, cap, rfl, _⟩
      · exact ⟨_, _, rfl⟩
      · exact ⟨_, _, by rw [hz]⟩
    exact eqIv_zero _ _ _ _ _
  · rcases h with ⟨h0, _⟩ | ⟨b, cap, rfl, h1, h2⟩
    · exact absurd h0 hz
    · rcases h' with ⟨h0, _⟩ | ⟨b', cap', rfl, h1', h2'⟩
      · exact absurd h0 hz
      · exact eqIv_row b b' cap cap' n F T w hn h1 h1' h2 h2'
theorem isNoIv_any (f t : Int) (w : World) :
    Calls Try.prog 64 #[.agg #[.int .i64 f, .int .i64 t]] w fun e w' => e = .returned (.bool (!iv f t)) ∧ Below w.heap.size w w' := by
  have HS := AllLt.start w; go_enter Try.func64, Try.ntmps64
  go_wp2_with fail
  (with_reducible refine (iIntervalValid_any _ _ _).mono ?_)
  rintro e w2 ⟨rfl, hb⟩
  have HB := hid (((Below.refl w.heap.size w).alloc (Nat.le_refl _) (.cells #[.int .i64 f, .int .i64 t] 41)).trans (hb.mono (by simp)))
  clear hb
  go_wp2
  go_ret
  exact ⟨rfl, HB.out⟩
/-- All of them are valid. -/
def alV (n : Nat) (F T : Nat → Int) : Bool := (List.range n).all fun i => iv (F i) (T i)
/-- A plan: 1 to 6 valid intervals. -/
def plV (n : Nat) (F T : Nat → Int) : Bool := decide (1 ≤ n ∧ n ≤ 6) && alV n F T
theorem alV_iff {n : Nat} {F T : Nat → Int} : alV n F T = true ↔ ∀ i, i < n → iv (F i) (T i) = true := by simp [alV, List.all_eq_true]
theorem alV_off {n i : Nat} {F T : Nat → Int} (hi : i < n) (h : iv (F i) (T i) = false) : alV n F T = false := by
  cases e : alV n F T
  · rfl
  · have := alV_iff.1 e i hi
    rw [h] at this; cases this
theorem plV_iff {n : Nat} {F T : Nat → Int} : plV n F T = true ↔ (1 ≤ n ∧ n ≤ 6) ∧ ∀ i, i < n → iv (F i) (T i) = true := by
  rw [plV, Bool.and_eq_true, decide_eq_true_eq, alV_iff]
theorem noIv_in (args : Array Value) (w : World) : (callFunc 64 args).run Try.prog w = .ok (.enter 64 args) w := by kernel_rfl
/-- An index of one that is not valid, or -1. -/
def NoAt (b : Bool) (w : World) (e : Ending) (w' : World) : Prop := ∃ z : Int, (b = true → z = -1) ∧ (b = false → 0 ≤ z) ∧ e = .returned (.int .i64 z) ∧ Below w.heap.size w w'
set_option maxHeartbeats 1000000 in
theorem idxIv_any (b cap n : Nat) (F T : Nat → Int) (w : World) (hn : n ≤ 4611686018427387904) (h1 : n ≤ cap) (hR : Rv w b n F T) :
    Calls Try.prog 84 #[.slice (some ⟨b, 0, none⟩) n cap, .func (.func 64) #[] #[]] w (NoAt (alV n F T) w) := by
  have HR := hid hR
  have hcf := noIv_in
  clear hR
  have HS := AllLt.start w; go_enter Try.func84, Try.ntmps84
  go_wp2_with fail
  go_loopw [8] (fun v wr => ∃ j : Nat, j ≤ n ∧ v = .int .i64 j ∧ Hid (∀ i, i < j → iv (F i) (T i) = true) ∧ Hid (Below w.heap.size w wr)) (fun v _ => n - (intOf v).toNat)
  case atStart => exact ⟨0, by omega, rfl, hid (fun i hi => by omega), hid (Below.refl _ _)⟩
  case round =>
    obtain ⟨j, hj, rfl, HF, HB⟩ := hrel
    clear HS
    obtain ⟨wi, rfl⟩ : ∃ wi : World, wi = wr := ⟨_, rfl⟩
    by_cases hjl : j < n
    · have hdj : decide ((j : Int) < (n : Int)) = true := by simp; omega
      have hdk : decide (j < n) = true := by simp; omega
      obtain ⟨c0, c1⟩ := (HR.out.below HB.out).2 j hjl
      cases hf : iv (F j) (T j)
      · have HN := hid (alV_off hjl hf)
        have HV := hid hf
        clear hf
        generalize F j = x at *
        generalize T j = y at *
        go_wp2_with fail
        (with_reducible refine (isNoIv_any _ _ _).mono ?_)
        rintro e w2 ⟨rfl, hb⟩
        rw [HV.out]
        have HB2 := hid (HB.out.trans (hb.mono HB.out.size))
        clear hb c0 c1
        go_wp2_with fail
        go_ret
        exact ⟨j, fun h => by (rw [HN.out] at h; cases h), fun _ => by omega, rfl, HB2.out⟩
      · have HN : Hid (∀ i, i < j + 1 → iv (F i) (T i) = true) := hid (fun i hi => by
          by_cases e : i = j
          · rw [e]; exact hf
          · exact HF.out i (by omega))
        have HV := hid hf
        clear hf
        generalize F j = x at c0 c1 HV
        generalize T j = y at c0 c1 HV
        go_wp2_with fail
        (with_reducible refine (isNoIv_any _ _ _).mono ?_)
        rintro e w2 ⟨rfl, hb⟩
        rw [HV.out]
        have HB2 := hid (HB.out.trans (hb.mono HB.out.size))
        clear hb c0 c1
        go_wp2_with fail
        go_roundw
        case rel => exact ⟨j + 1, by omega, by go_num, HN, HB2⟩
        case measure => simp [intOf]; omega
    · obtain rfl : j = n := by omega
      have hdj : decide ((j : Int) < (j : Int)) = false := by simp
      have HN := hid (alV_iff.2 HF.out)
      go_wp2_with fail
      go_ret
      exact ⟨-1, fun _ => rfl, fun h => by (rw [HN.out] at h; cases h), rfl, HB.out⟩
theorem contIv_any (b cap n : Nat) (F T : Nat → Int) (w : World) (hn : n ≤ 4611686018427387904) (h1 : n ≤ cap) (hR : Rv w b n F T) :
    Calls Try.prog 63 #[.slice (some ⟨b, 0, none⟩) n cap, .func (.func 64) #[] #[]] w fun e w' => e = .returned (.bool (!alV n F T)) ∧ Below w.heap.size w w' := by
  have HI := hid (idxIv_any b cap n F T w hn h1 hR)
  clear hR
  cases hb : alV n F T
  all_goals
    have HV := hid hb
    clear hb
    have HS := AllLt.start w; go_enter Try.func63, Try.ntmps63
    go_wp2_with fail
    (with_reducible refine HI.out.mono ?_)
    rintro e w2 ⟨z, hz1, hz2, rfl, hb⟩
  · have hz := hz2 HV.out
    have hd : decide (0 ≤ z) = true := by simp; omega
    have HB := hid hb
    clear hb hz1 hz2
    go_wp2_with fail
    go_ret
    exact ⟨rfl, HB.out⟩
  · obtain rfl := hz1 HV.out
    have HB := hid hb
    clear hb hz1 hz2
    go_wp2_with fail
    go_ret
    exact ⟨rfl, HB.out⟩
theorem isPlan_zero (a : Option Addr) (c : Nat) (w : World) :
    Calls Try.prog 51 #[.slice a 0 c] w fun e w' => e = .returned (.bool false) ∧ Below w.heap.size w w' := by
  have HS := AllLt.start w; go_enter Try.func51, Try.ntmps51
  go_wp2
  go_ret
  exact ⟨rfl, Below.refl _ _⟩
theorem isPlan_any (b cap n : Nat) (F T : Nat → Int) (w : World) (hn : n ≤ 4611686018427387904) (h1 : n ≤ cap) (hR : Rv w b n F T) :
    Calls Try.prog 51 #[.slice (some ⟨b, 0, none⟩) n cap] w fun e w' => e = .returned (.bool (plV n F T)) ∧ Below w.heap.size w w' := by
  have HI := hid (contIv_any b cap n F T w hn h1 hR)
  clear hR
  by_cases g1 : 1 ≤ n
  · have d1 : decide ((1 : Int) ≤ (n : Int)) = true := by simp; omega
    by_cases g6 : n ≤ 6
    · have d6 : decide ((n : Int) ≤ 6) = true := by simp; omega
      have HV := hid (show plV n F T = alV n F T by unfold plV; rw [decide_eq_true (And.intro g1 g6), Bool.true_and])
      have HS := AllLt.start w; go_enter Try.func51, Try.ntmps51
      go_wp2_with fail
      (with_reducible refine HI.out.mono ?_)
      rintro e w2 ⟨rfl, hb⟩
      have HB := hid hb
      clear hb
      go_wp2_with fail
      go_ret
      exact ⟨ret_bool (by simp [HV.out]), HB.out⟩
    · have d6 : decide ((n : Int) ≤ 6) = false := by simp; omega
      have HV := hid (show plV n F T = false by unfold plV; rw [decide_eq_false (fun h => g6 h.2), Bool.false_and])
      have HS := AllLt.start w; go_enter Try.func51, Try.ntmps51
      go_wp2_with fail
      go_ret
      exact ⟨ret_bool HV.out.symm, Below.refl _ _⟩
  · have d1 : decide ((1 : Int) ≤ (n : Int)) = false := by rw [decide_eq_false_iff_not]; omega
    have HV := hid (show plV n F T = false by unfold plV; rw [decide_eq_false (fun h => g1 h.1), Bool.false_and])
    have HS := AllLt.start w; go_enter Try.func51, Try.ntmps51
    go_wp2_with fail
    go_ret
    exact ⟨ret_bool HV.out.symm, Below.refl _ _⟩
set_option maxHeartbeats 1000000 in
theorem l5All_zero (a : Option Addr) (c : Nat) (w : World) :
    Calls Try.prog 34 #[.slice a 0 c] w fun e w' => e = .returned (.bool false) ∧ Below w.heap.size w w' := by
  have HS := AllLt.start w; go_enter Try.func34, Try.ntmps34
  go_wp2
  go_rounds 1
  go_ret
  exact ⟨rfl, Below.refl _ _⟩
set_option maxHeartbeats 1000000 in
theorem l5All_any (b cap n : Nat) (F T : Nat → Int) (w : World) (hn : n ≤ 4611686018427387904) (h1 : n ≤ cap) (hR : Rv w b n F T) :
    Calls Try.prog 34 #[.slice (some ⟨b, 0, none⟩) n cap] w fun e w' => e = .returned (.bool (plV n F T)) ∧ Below w.heap.size w w' := by
  have HR := hid hR
  clear hR
  have HS := AllLt.start w; go_enter Try.func34, Try.ntmps34
  go_wp2_with fail
  go_loopw [3] (fun v wr => ∃ j : Nat, j ≤ n ∧ v = .int .i64 j ∧ Hid (∀ i, i < j → iv (F i) (T i) = true) ∧ Hid (Below w.heap.size w wr)) (fun v _ => n - (intOf v).toNat)
  case atStart => exact ⟨0, by omega, rfl, hid (fun i hi => by omega), hid (Below.refl _ _)⟩
  case round =>
    obtain ⟨j, hj, rfl, HF, HB⟩ := hrel
    clear HS
    obtain ⟨wi, rfl⟩ : ∃ wi : World, wi = wr := ⟨_, rfl⟩
    by_cases hjl : j < n
    · have hdj : decide ((j : Int) < (n : Int)) = true := by simp; omega
      have hdk : decide (j < n) = true := by simp; omega
      obtain ⟨c0, c1⟩ := (HR.out.below HB.out).2 j hjl
      cases hf : iv (F j) (T j)
      · have HN := hid (show plV n F T = false by unfold plV; rw [alV_off hjl hf, Bool.and_false])
        have HV := hid hf
        clear hf
        generalize F j = x at c0 c1 HV
        generalize T j = y at c0 c1 HV
        go_wp2_with fail
        (with_reducible refine (sIntervalValid_any _ _ _).mono ?_)
        rintro e w2 ⟨rfl, hb⟩
        rw [HV.out]
        have HB2 := hid (HB.out.trans (hb.mono HB.out.size))
        clear hb c0 c1
        go_wp2_with fail
        go_ret
        exact ⟨ret_bool HN.out.symm, HB2.out⟩
      · have HN : Hid (∀ i, i < j + 1 → iv (F i) (T i) = true) := hid (fun i hi => by
          by_cases e : i = j
          · rw [e]; exact hf
          · exact HF.out i (by omega))
        have HV := hid hf
        clear hf
        generalize F j = x at c0 c1 HV
        generalize T j = y at c0 c1 HV
        go_wp2_with fail
        (with_reducible refine (sIntervalValid_any _ _ _).mono ?_)
        rintro e w2 ⟨rfl, hb⟩
        rw [HV.out]
        have HB2 := hid (HB.out.trans (hb.mono HB.out.size))
        clear hb c0 c1
        go_wp2_with fail
        go_roundw
        case rel => exact ⟨j + 1, by omega, by go_num, HN, HB2⟩
        case measure => simp [intOf]; omega
    · obtain rfl : j = n := by omega
      have hdj : decide ((j : Int) < (j : Int)) = false := by simp
      have HN : Hid (plV j F T = btw 1 (j : Int) 6) := hid (by
        unfold plV btw
        rw [alV_iff.2 HF.out, Bool.and_true]
        rw [Bool.eq_iff_iff, decide_eq_true_eq, decide_eq_true_eq]
        omega)
      go_wp2_with fail
      (with_reducible refine (l1In_any _ _ _ _).mono ?_)
      rintro e w2 ⟨rfl, rfl⟩
      go_wp2_with fail
      go_ret
      exact ⟨ret_bool HN.out.symm, HB.out⟩
/-! Slices of intervals that an answer owns -/
/-- A new slice of n intervals. -/
def NewI (w : World) (n : Nat) (F T : Nat → Int) (v : Value) (w' : World) : Prop :=
  Below w.heap.size w w' ∧ ((n = 0 ∧ ∃ a c, v = .slice a 0 c) ∨ (0 < n ∧ ∃ b cap, v = .slice (some ⟨b, 0, none⟩) n cap ∧ n ≤ cap ∧ w.heap.size ≤ b ∧ Rv w' b n F T ∧ Fv w' b n))
def NewIS (w : World) (n : Nat) (F T : Nat → Int) (ok : Bool) (e : Ending) (w' : World) : Prop := ∃ v, e = .returned (.tuple #[v, .bool ok]) ∧ NewI w n F T v w'
theorem NewI.from {w w1 w2 : World} {n : Nat} {F T : Nat → Int} {v : Value} (h : NewI w1 n F T v w2) (hb : Below w.heap.size w w1) : NewI w n F T v w2 := by
  refine ⟨hb.trans (h.1.mono hb.size), h.2.imp id ?_⟩
  rintro ⟨h0, b, cap, h1, h2, h3, h4⟩
  exact ⟨h0, b, cap, h1, h2, Nat.le_trans hb.size h3, h4⟩
def IvN (B : Nat) (w : World) (v : Value) (n : Nat) (F T : Nat → Int) : Prop :=
  (n = 0 ∧ ∃ a c, v = .slice a 0 c) ∨ (0 < n ∧ ∃ b cap, v = .slice (some ⟨b, 0, none⟩) n cap ∧ n ≤ cap ∧ B ≤ b ∧ Rv w b n F T ∧ Fv w b n)
theorem NewI.v {w w' : World} {n : Nat} {F T : Nat → Int} {v : Value} (h : NewI w n F T v w') : IvN w.heap.size w' v n F T := h.2
theorem IvN.si {B : Nat} {w : World} {v : Value} {n : Nat} {F T : Nat → Int} (h : IvN B w v n F T) : Si w v n F T := by
  rcases h with h | ⟨_, b, cap, rfl, hc, _, h, _⟩
  · exact .inl h
  · exact h.si hc
theorem IvN.wr {B q : Nat} {w w' : World} {v : Value} {n : Nat} {F T : Nat → Int} (h : IvN B w v n F T) (hW : Wr q w w') (hq : q < B) : IvN B w' v n F T := by
  rcases h with h | ⟨hn, b, cap, rfl, hc, hB, h, hf⟩
  · exact .inl h
  · exact .inr ⟨hn, b, cap, rfl, hc, hB, h.wr hW (by omega), fun i hi => by rw [hW.frozen h.1 (by omega), hW.frozen h.1 (by omega)]; exact hf i hi⟩
theorem IvN.below {B : Nat} {w w' : World} {v : Value} {n : Nat} {F T : Nat → Int} (h : IvN B w v n F T) (hb : Below w.heap.size w w') : IvN B w' v n F T := by
  rcases h with h | ⟨hn, b, cap, rfl, hc, hB, h, hf⟩
  · exact .inl h
  · exact .inr ⟨hn, b, cap, rfl, hc, hB, h.below hb, hf.below hb h.1⟩
theorem IvN.lower {B C : Nat} {w : World} {v : Value} {n : Nat} {F T : Nat → Int} (h : IvN B w v n F T) (hC : C ≤ B) : IvN C w v n F T := by
  rcases h with h | ⟨hn, b, cap, rfl, hc, hB, h⟩
  · exact .inl h
  · exact .inr ⟨hn, b, cap, rfl, hc, Nat.le_trans hC hB, h⟩
def UpI (C : Nat) (w : World) (v : Value) (n : Nat) (F T : Nat → Int) : Prop := (n = 0 ∧ ∃ a c, v = .slice a 0 c) ∨ ∃ b cap, v = .slice (some ⟨b, 0, none⟩) n cap ∧ n ≤ cap ∧ b < C ∧ Rv w b n F T
theorem IvN.up {B : Nat} {w : World} {v : Value} {n : Nat} {F T : Nat → Int} (h : IvN B w v n F T) : UpI w.heap.size w v n F T := by
  rcases h with h | ⟨_, b, cap, rfl, hc, _, h, _⟩
  · exact .inl h
  · exact .inr ⟨b, cap, rfl, hc, h.1, h⟩
theorem UpI.si {C : Nat} {w : World} {v : Value} {n : Nat} {F T : Nat → Int} (h : UpI C w v n F T) : Si w v n F T := by
  rcases h with h | ⟨b, cap, rfl, hc, _, h⟩
  · exact .inl h
  · exact h.si hc
theorem UpI.below {C : Nat} {w w' : World} {v : Value} {n : Nat} {F T : Nat → Int} (h : UpI C w v n F T) (hb : Below C w w') : UpI C w' v n F T := by
  rcases h with h | ⟨b, cap, rfl, hc, hC, h⟩
  · exact .inl h
  · exact .inr ⟨b, cap, rfl, hc, hC, Nat.lt_of_lt_of_le h.1 hb.size, fun i hi => by rw [hb.cell (p := ⟨b, i * 2, none⟩) hC, hb.cell (p := ⟨b, i * 2 + 1, none⟩) hC]; exact h.2 i hi⟩
/-- the cells of n intervals -/
def ivC (F T : Nat → Int) : Nat → List Value
  | 0 => []
  | n + 1 => ivC F T n ++ [.int .i64 (F n), .int .i64 (T n)]
theorem ivC_len (F T : Nat → Int) : ∀ n, (ivC F T n).length = n * 2
  | 0 => rfl
  | n + 1 => by
    have := ivC_len F T n
    simp only [ivC, List.length_append, List.length_cons, List.length_nil]; omega
theorem ivC_at (F T : Nat → Int) : ∀ (n i : Nat), i < n → (ivC F T n)[i * 2]? = some (.int .i64 (F i)) ∧ (ivC F T n)[i * 2 + 1]? = some (.int .i64 (T i))
  | 0, i, h => by omega
  | n + 1, i, h => by
    have hl := ivC_len F T n
    by_cases e : i = n
    · subst e
      simp only [ivC]
      rw [List.getElem?_append_right (by omega), List.getElem?_append_right (by omega), hl, show i * 2 - i * 2 = 0 by omega, show i * 2 + 1 - i * 2 = 1 by omega]
      exact ⟨rfl, rfl⟩
    · have ih := ivC_at F T n i (by omega)
      simp only [ivC]
      rw [List.getElem?_append_left (by omega), List.getElem?_append_left (by omega)]
      exact ih
theorem own_rv {w : World} {base n : Nat} {v : Value} {t : TypeId} {F T : Nat → Int} (h : w.ownsRow base t 2 v n (ivC F T n)) (hn : 0 < n) :
    ∃ b cap, v = .slice (some ⟨b, 0, none⟩) n cap ∧ n ≤ cap ∧ base ≤ b ∧ Rv w b n F T ∧ Fv w b n := by
  have h0 := h
  rcases h.2 with ⟨rfl, hz⟩ | ⟨g, cap, cur, rfl, hB, hg, h1, h2, h3, h4⟩
  · omega
  · refine ⟨g, cap, rfl, h1, hB, ⟨(Array.getElem?_eq_some_iff.1 hg).1, fun i hi => ?_⟩, fun i hi => ⟨h.frozenAt _, h.frozenAt _⟩⟩
    rw [h.cellAt (i * 2) (by omega), h.cellAt (i * 2 + 1) (by omega)]
    exact ivC_at F T n i hi
end Go.Proofs.Ytmdgkhebefnfeab.C
