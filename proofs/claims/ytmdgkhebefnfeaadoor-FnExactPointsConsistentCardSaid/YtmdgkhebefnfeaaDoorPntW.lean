/- The model's table of compositions, and its closing of orders. -/
import Derived.Test.YtmdgkhebefnfeaaDoorPntU
import Derived.Test.YtmdgkhebefnfeaaDoorTurn
import Derived.Deep.QuietTactic
import Derived.BigQuiet
namespace Go.Proofs.YtmdgkhebefnfeaaDoor.C
open Go.RowKit
set_option linter.unusedVariables false
set_option linter.unusedSimpArgs false
theorem andW64 : ∀ a b : Fin 8, bits .and .i64 ((a.val : Nat) : Int) ((b.val : Nat) : Int) = (((a.val &&& b.val : Nat)) : Int) := by decide +kernel
theorem and_natW {a b : Nat} (ha : a < 8) (hb : b < 8) : bits .and .i64 (a : Int) (b : Int) = ((a &&& b : Nat) : Int) := andW64 ⟨a, ha⟩ ⟨b, hb⟩
/-- the table's values -/
def cpT (x : Nat) : Nat := cpn (x / 8) (x % 8)
theorem cpT_at {a b : Nat} (hb : b < 8) : cpT (8 * a + b) = cpn a b := by
  unfold cpT
  rw [show (8 * a + b) / 8 = a by omega, show (8 * a + b) % 8 = b by omega]
set_option maxHeartbeats 4000000 in
set_option maxRecDepth 100000 in
theorem l9Comp_any (w : World) :
    Calls Tryd.prog 89 #[] w fun e w' => (∃ v, e = .returned v ∧ w'.ownsRow w.heap.size 3 1 v 64 (rL9 cpT 64)) ∧ Below w.heap.size w w' := by
  obtain ⟨i0, hi0, hz0, hz1, hz2⟩ := info_parts int9
  have HS := AllLt.start w; go_enter Tryd.func89, Tryd.ntmps89
  go_wp2_with fail
  have HO0 := hid (show (w.alloc (.cells #[] 3)).ownsRow w.heap.size 3 1 (.slice (some ⟨w.heap.size, 0, none⟩) 0 0) (8 * 0 + 0) (rL9 cpT (8 * 0 + 0)) from World.ownsRow_made (base := w.heap.size) (e := 3) (size := 1) w #[] 0 (Nat.le_refl _) (by decide) rfl)
  have HB0 := hid ((Below.refl w.heap.size w).alloc (Nat.le_refl _) (.cells #[] 3))
  go_loopw [1, 2] (fun v a wr => ∃ i : Nat, i ≤ 8 ∧ a = .int .i64 i ∧ Hid (wr.ownsRow w.heap.size 3 1 v (8 * i + 0) (rL9 cpT (8 * i + 0))) ∧ Hid (Below w.heap.size w wr)) (fun _ a _ => 8 - (intOf a).toNat)
  case atStart => exact ⟨0, by omega, rfl, HO0, HB0⟩
  case round =>
    obtain ⟨i, hi, rfl, HO, HB⟩ := hrel
    clear HS HO0 HB0
    by_cases hin : i < 8
    · have hdi : decide ((i : Int) < 8) = true := by simp; omega
      go_wp2_with fail
      go_loopw [1, 3] (fun v a wr => ∃ k : Nat, k ≤ 8 ∧ a = .int .i64 k ∧ Hid (wr.ownsRow w.heap.size 3 1 v (8 * i + k) (rL9 cpT (8 * i + k))) ∧ Hid (Below w.heap.size w wr)) (fun _ a _ => 8 - (intOf a).toNat)
      case atStart => exact ⟨0, by omega, rfl, HO, HB⟩
      case round =>
        obtain ⟨k, hk, rfl, HO2, HB2⟩ := hrel
        obtain ⟨wi, rfl⟩ : ∃ wi : World, wi = wr := ⟨_, rfl⟩
        (try clear HO HB)
        by_cases hkn : k < 8
        · have hdk : decide ((k : Int) < 8) = true := by simp; omega
          have HLC := hid (fun wx => l1Compose_any (i : Int) (k : Int) wx (pv_nat hin) (pv_nat hkn))
          have HCC := hid (cps_cpn hin hkn)
          have HAT := hid (cpT_at (a := i) hkn)
          go_wp2_with fail
          (with_reducible refine (HLC.out _).mono ?_)
          rintro e w2 ⟨rfl, rfl⟩
          rw [HCC.out]
          go_wp2_with (at_builtin; refine wpList_append_own _ rfl _ _ 35 rfl w.heap.size 3 i0 _ 1 8 Tryd.underlying35 hi0 hz0 hz1 hz2 rfl (by decide) _ _ _ rfl (HO2.out.alloc _) ⟨wi.heap.size, 0, none⟩ 1 1 [.int .i64 ((cpn i k : Nat) : Int)] rfl rfl ?c1 ?c2 ?c3 ?c4 ?c5 ?_)
          case c1 =>
            intro j u hj
            match j, hj with
            | 0, hj => simp at hj; subst hj; simp [Addr.add]
          case c2 => intro u hu; simp at hu; subst hu; rfl
          case c3 => unfold maxLen; omega
          case c4 => omega
          case c5 => have := HB2.out.size; simp; omega
          intro v' w3 hown' hgrow _
          have HB4 := hid ((HB2.out.alloc HB2.out.size _).grown hgrow (by have := HB2.out.size; simp; omega) (fun j hj => (HO2.out.lt j hj).1))
          have HO4 := hid (show w3.ownsRow w.heap.size 3 1 v' (8 * i + (k + 1)) (rL9 cpT (8 * i + (k + 1))) by
            rw [show 8 * i + (k + 1) = (8 * i + k) + 1 by omega, ← rL9_succ, HAT.out]; exact hown')
          clear hown' hgrow
          go_wp2_with fail
          go_roundw
          case rel => exact ⟨k + 1, by omega, by go_num, HO4, HB4⟩
          case measure => simp [intOf]; omega
        · obtain rfl : k = 8 := by omega
          have HO4 := hid (own_rL9 HO2.out (show 8 * i + 8 = 8 * (i + 1) + 0 by omega))
          go_wp2_with fail
          go_roundw
          case rel => exact ⟨i + 1, by omega, by go_num, HO4, HB2⟩
          case measure => simp [intOf]; omega
    · obtain rfl : i = 8 := by omega
      go_wp2_with fail
      go_ret
      exact ⟨⟨_, rfl, HO.out⟩, HB.out⟩
theorem put_rowW {n : Nat} {N : Nat → Nat → Nat} {i k r : Nat} (hi : i < n) (hk : k < n) (hne : i ≠ k) {x : Nat} (hx : x < n * n) :
    upL9 (upL9 (flP n N) (i * n + k) r) (k * n + i) (tpn r) x = flP n (putQ N i k r) x := by
  have h1 := pat_div (i := i) hk
  have h2 := pat_div (i := k) hi
  have h3 := (div_lt' hx).2.2
  have E1 : (x / n = k ∧ x % n = i) ↔ x = k * n + i := ⟨fun h => by rw [← h3, h.1, h.2], fun h => by rw [h]; exact h2⟩
  have E2 : (x / n = i ∧ x % n = k) ↔ x = i * n + k := ⟨fun h => by rw [← h3, h.1, h.2], fun h => by rw [h]; exact h1⟩
  unfold upL9 flP putQ
  simp only [E1, E2]
  by_cases e1 : x = k * n + i
  · have e2 : ¬ x = i * n + k := by
      intro e2
      have g1 := E1.2 e1
      have g2 := E2.2 e2
      omega
    rw [if_pos e1, if_neg e2, if_pos e1]
  · rw [if_neg e1, if_neg e1]
/-- A pass's table: the box holds it, and its row lies in a block of its own. -/
def Cb (w wr : World) (n nn : Nat) (C : Nat → Nat → Nat) : Prop :=
  ∃ b gu cap, Tq wr w.heap.size n (.slice (some ⟨gu, 0, none⟩) nn cap) ∧ wr.ownsRow b 3 1 (.slice (some ⟨gu, 0, none⟩) nn cap) nn (rL9 (flP n C) nn) ∧ gu ≠ w.heap.size ∧ gu ≠ w.heap.size + 1 ∧ gu < wr.heap.size
theorem ret_cls {n : Int} {u u' : Value} {b b' : Bool} (h : u = u') (h' : b = b') : Ending.returned (.tuple #[.agg #[.int .i64 n, u], .bool b]) = .returned (.tuple #[.agg #[.int .i64 n, u'], .bool b']) := by rw [h, h']
/-- no orders are none -/
def neQ (n nn : Nat) (C : Nat → Nat → Nat) : Bool := decide (∀ x, x < nn → flP n C x ≠ 0)
/-- what closing ends with -/
def ClsPost (w : World) (n nn : Nat) (N : Nat → Nat → Nat) (e : Ending) (w' : World) : Prop :=
  (∃ C u, IsClo n N C ∧ e = .returned (.tuple #[.agg #[.int .i64 (n : Int), u], .bool (neQ n nn C)]) ∧ Tz9 w' w'.heap.size u nn (flP n C) ∧ (∃ b, w'.ownsRow b 3 1 u nn (rL9 (flP n C) nn))) ∧ Below w.heap.size w w'
open Classical in
/-- how much closing has left to do -/
noncomputable def muC (w : World) (n nn : Nat) (c : Value) (wr : World) : Nat := if c = .bool true then (if h : ∃ C, OkP n C ∧ Cb w wr n nn C then muP n h.choose + 1 else 1) else 0
theorem muC_false (w : World) (n nn : Nat) (wr : World) : muC w n nn (.bool false) wr = 0 := by
  unfold muC
  rw [if_neg (by simp)]
theorem rL9_inj {L M : Nat → Nat} {m : Nat} (h : rL9 L m = rL9 M m) {x : Nat} (hx : x < m) : L x = M x := by
  have := congrArg (fun l => l[x]?) h
  simp [rL9, hx] at this
  omega
theorem Cb.same {w wr : World} {n nn : Nat} (hnn : nn = n * n) {C D : Nat → Nat → Nat} (h : Cb w wr n nn C) (k : Cb w wr n nn D) {a b : Nat} (ha : a < n) (hb : b < n) : C a b = D a b := by
  obtain ⟨b1, g1, c1, t1, o1, _, _, _⟩ := h
  obtain ⟨b2, g2, c2, t2, o2, _, _, _⟩ := k
  unfold Tq at t1 t2
  rw [t1] at t2
  have e : Value.slice (some ⟨g1, 0, none⟩) nn c1 = .slice (some ⟨g2, 0, none⟩) nn c2 := by
    injection t2 with t2
    injection t2 with t2
    have := congrArg (fun l => l[1]?) t2
    simpa using this
  cases e
  obtain ⟨q1, cp1, e1, _, _, r1, _⟩ := row_at9 o1 (j := a * n + b) (by rw [hnn]; exact pat_lt ha hb)
  obtain ⟨q2, cp2, e2, _, _, r2, _⟩ := row_at9 o2 (j := a * n + b) (by rw [hnn]; exact pat_lt ha hb)
  cases e1
  cases e2
  rw [r1] at r2
  simp only [Option.some.injEq, Value.int.injEq, true_and] at r2
  rw [flP_at C hb, flP_at D hb] at r2
  omega
theorem muC_true {w wr : World} {n nn : Nat} (hnn : nn = n * n) {C : Nat → Nat → Nat} (h : Cb w wr n nn C) (ho : OkP n C) : muC w n nn (.bool true) wr = muP n C + 1 := by
  have hx : ∃ C, OkP n C ∧ Cb w wr n nn C := ⟨C, ho, h⟩
  unfold muC
  rw [if_pos rfl, dif_pos hx]
  have h2 := hx.choose_spec
  generalize hx.choose = S at *
  have e : muP n S = muP n C := by
    unfold muP
    congr 1
    refine List.map_congr_left fun a ha => ?_
    congr 1
    exact List.map_congr_left fun b hb => h2.2.same hnn h (List.mem_range.1 ha) (List.mem_range.1 hb)
  rw [e]
set_option maxHeartbeats 8000000 in
set_option maxRecDepth 100000 in
theorem l9Closed_any (n nn : Nat) (hnn : nn = n * n) (N : Nat → Nat → Nat) (hN : OkP n N) (b0 bt0 : Nat) (tv u0 : Value) (w : World) (hO : w.ownsRow b0 3 1 u0 nn (rL9 (flP n N) nn)) (hTb : w.ownsRow bt0 3 1 tv 64 (rL9 cpT 64)) :
    Calls Tryd.prog 88 #[tv, .agg #[.int .i64 (n : Int), u0]] w (ClsPost w n nn N) := by
  have h12 := hN.le
  have h1 := hN.one
  have h144 : nn ≤ 144 := by rw [hnn]; exact Nat.mul_le_mul h12 h12
  have h1n : 1 ≤ nn := by rw [hnn]; exact Nat.mul_le_mul h1 h1
  have HNN := hid hnn
  obtain ⟨g0, cap0, rfl, hgb0, hgl0⟩ := hO.form (by omega)
  obtain ⟨gt, capt, rfl, hgtb, hgtl⟩ := hTb.form (by omega)
  have HOK := hid hN
  have HB0 := hid (((Below.refl w.heap.size w).alloc (Nat.le_refl _) (.cells #[.int .i64 (n : Int), .slice (some ⟨g0, 0, none⟩) nn cap0] 73)).alloc (by simp) (.cells #[.int .i64 0, .slice none 0 0] 73))
  have HA0 := hid ((Tq.made w n (.slice (some ⟨g0, 0, none⟩) nn cap0)).alloc (.cells #[.int .i64 0, .slice none 0 0] 73))
  have HR0 := hid (show Tq ((w.alloc (.cells #[.int .i64 (n : Int), .slice (some ⟨g0, 0, none⟩) nn cap0] 73)).alloc (.cells #[.int .i64 0, .slice none 0 0] 73)) (w.heap.size + 1) 0 (.slice none 0 0) by
    have h := Tq.made (w.alloc (.cells #[.int .i64 (n : Int), .slice (some ⟨g0, 0, none⟩) nn cap0] 73)) 0 (.slice none 0 0)
    rw [World.size_alloc] at h
    exact h)
  have HO0 := hid (own_bel hO HB0.out)
  have HT0 := hid hTb
  have HGT := hid hgtl
  have HG0 := hid hgl0
  clear hO hTb hN hnn
  have HS := AllLt.start w; go_enter Tryd.func88, Tryd.ntmps88
  go_upto_region 1 with fail
  generalize (w.alloc (.cells #[.int .i64 (n : Int), .slice (some ⟨g0, 0, none⟩) nn cap0] 73)).alloc (.cells #[.int .i64 0, .slice none 0 0] 73) = w0 at *
  have HC0 := hid (show Cb w w0 n nn N from ⟨b0, g0, cap0, HA0.out, HO0.out, by omega, by omega, Nat.lt_of_lt_of_le hgl0 HB0.out.size⟩)
  go_wp2_with fail
  go_loopw [6] (fun c wr => ∃ c0 : Bool, c = .bool c0 ∧ ∃ C : Nat → Nat → Nat, Hid (PasI n N C) ∧ Hid (c0 = false → IsClo n N C) ∧ Hid (Cb w wr n nn C) ∧ Hid (Tq wr (w.heap.size + 1) 0 (.slice none 0 0)) ∧ Hid (Below w.heap.size w wr)) (fun c wr => muC w n nn c wr)
  case atStart => exact ⟨true, rfl, N, hid (PasI.start HOK.out), hid (fun h => by cases h), HC0, HR0, HB0⟩
  case round =>
    obtain ⟨c0, rfl, C, HI, HD, HC, HR, HB⟩ := hrel
    clear HS HC0 HR0
    cases c0
    · have HCL := hid (HD.out rfl)
      go_wp2_with fail
      go_loopw [11] (fun v wr => ∃ x : Nat, x ≤ nn ∧ v = .int .i64 (x : Int) ∧ Hid (∀ y, y < x → flP n C y ≠ 0) ∧ Hid (Cb w wr n nn C) ∧ Hid (Tq wr (w.heap.size + 1) 0 (.slice none 0 0)) ∧ Hid (Below w.heap.size w wr)) (fun v _ => nn - (intOf v).toNat)
      case atStart => exact ⟨0, by omega, rfl, hid (fun y hy => by omega), HC, HR, HB⟩
      case round =>
        obtain ⟨x, hx, rfl, HF, HC3, HR3, HB3⟩ := hrel
        (try clear HS)
        (try clear HC HR HB)
        obtain ⟨wi, rfl⟩ : ∃ wi : World, wi = wr := ⟨_, rfl⟩
        obtain ⟨b, gu, cap, htq, hown, hg1, hg2, hg3⟩ := HC3.out
        have HTQ := hid htq
        have HOW := hid hown
        have t0 := htq.c0
        have t1 := htq.c1
        have r0 := HR3.out.c0
        have r1 := HR3.out.c1
        have rf0 := HR3.out.fr 0
        have rf1 := HR3.out.fr 1
        have HLL := hid (show ∀ x, x < nn → flP n C x < 8 from fun x hx => HI.out.ok.lt _ _ (div_lt' (by rw [← HNN.out]; exact hx)).1 (div_lt' (by rw [← HNN.out]; exact hx)).2.1)
        have HQ := hid (fun v0 v1 => own_far9 (own_far9 hown (p := ⟨w.heap.size + 1, 0, none⟩) hg2 v0) (p := ⟨w.heap.size + 1, 1, none⟩) hg2 v1)
        clear htq
        by_cases hxn : x < nn
        · obtain ⟨g', cap', hv, hgb3, hgl3, hc, hf⟩ := row_at9 hown (j := x) hxn
          cases hv
          have hdi : decide ((x : Int) < (nn : Int)) = true := by simp; omega
          have hdk : decide (x < nn) = true := by simp; omega
          clear hown
          by_cases h0 : flP n C x = 0
          · have hq : (((flP n C x : Nat) : Int) == 0) = true := by rw [h0]; rfl
            have hdF := hid (show decide (∀ x, x < nn → flP n C x ≠ 0) = false by
              rw [decide_eq_false_iff_not]
              intro hh
              exact hh x hxn h0)
            clear h0
            go_wp2_with fail
            refine bodyPost_ret (by simp [results, Tryd.results88, go_sem, *]; try rfl) rfl ?_
            exact ⟨⟨C, _, HCL.out, ret_cls rfl hdF.out.symm, Tz9.of_own (HQ.out _ _), b, HQ.out _ _⟩, (HB3.out.setCell (p := ⟨w.heap.size + 1, 0, none⟩) (by simp) _).setCell (p := ⟨w.heap.size + 1, 1, none⟩) (by simp) _⟩
          · have hq : (((flP n C x : Nat) : Int) == 0) = false := by rw [beq_eq_false_iff_ne]; omega
            have HF2 := hid (show ∀ y, y < x + 1 → flP n C y ≠ 0 from fun y hy => by
              by_cases e : y = x
              · rw [e]; exact h0
              · exact HF.out y (by omega))
            clear h0
            go_wp2_with fail
            refine ⟨?_, ?measure⟩
            · exact ⟨x + 1, by omega, by go_num, HF2, HC3, HR3, HB3⟩
            case measure => simp [intOf]; omega
        · obtain rfl : x = nn := by omega
          have hdi : decide ((x : Int) < (x : Int)) = false := by simp
          have hdT := hid (show decide (∀ y, y < x → flP n C y ≠ 0) = true by
            rw [decide_eq_true_iff]; exact HF.out)
          go_wp2_with fail
          refine bodyPost_ret (by simp [results, Tryd.results88, go_sem, *]; try rfl) rfl ?_
          exact ⟨⟨C, _, HCL.out, ret_cls rfl hdT.out.symm, Tz9.of_own (HQ.out _ _), b, HQ.out _ _⟩, (HB3.out.setCell (p := ⟨w.heap.size + 1, 0, none⟩) (by simp) _).setCell (p := ⟨w.heap.size + 1, 1, none⟩) (by simp) _⟩
    · have HM0 := hid (muC_true HNN.out HC.out HI.out.ok)
      go_wp2_with fail
      go_loopw [6, 7] (fun c v wr => ∃ (c1 : Bool) (i : Nat), c = .bool c1 ∧ i ≤ n ∧ v = .int .i64 (i : Int) ∧ ∃ D : Nat → Nat → Nat, Hid (PasI n N D) ∧ Hid (c1 = true → muP n D < muP n C) ∧ Hid (c1 = false → muP n D = muP n C ∧ ∀ a b y, a < i → a < b → b < n → y < n → Tri D a y b) ∧ Hid (Cb w wr n nn D) ∧ Hid (Tq wr (w.heap.size + 1) 0 (.slice none 0 0)) ∧ Hid (Below w.heap.size w wr)) (fun _ v _ => n - (intOf v).toNat)
      case atStart => exact ⟨false, 0, rfl, by omega, rfl, C, HI, hid (fun h => by cases h), hid (fun _ => ⟨rfl, fun a b y ha => by omega⟩), HC, HR, HB⟩
      case round =>
        obtain ⟨c1, i, rfl, hi, rfl, D, HI2, HT1, HF1, HC2, HR2, HB2⟩ := hrel
        (try clear HS)
        (try clear HC HR HB)
        obtain ⟨wi, rfl⟩ : ∃ wi : World, wi = wr := ⟨_, rfl⟩
        have hcb := HC2.out
        obtain ⟨b, gu, cap, htq, hown, hg1, hg2, hg3⟩ := hcb
        have t0 := htq.c0
        by_cases hin : i < n
        · have hdi : decide ((i : Int) < (n : Int)) = true := by simp; omega
          clear htq hown hg1 hg2 hg3
          go_wp2_with fail
          clear t0
          go_loopw [6, 8] (fun c v wr => ∃ (c2 : Bool) (k : Nat), c = .bool c2 ∧ i + 1 ≤ k ∧ k ≤ n ∧ v = .int .i64 (k : Int) ∧ ∃ E : Nat → Nat → Nat, Hid (PasI n N E) ∧ Hid (c2 = true → muP n E < muP n C) ∧ Hid (c2 = false → muP n E = muP n C ∧ (∀ a b y, a < i → a < b → b < n → y < n → Tri E a y b) ∧ ∀ b y, i < b → b < k → y < n → Tri E i y b) ∧ Hid (Cb w wr n nn E) ∧ Hid (Tq wr (w.heap.size + 1) 0 (.slice none 0 0)) ∧ Hid (Below w.heap.size w wr)) (fun _ v _ => n - (intOf v).toNat)
          case atStart => exact ⟨c1, i + 1, rfl, by omega, by omega, by go_num, D, HI2, HT1, hid (fun h => ⟨(HF1.out h).1, (HF1.out h).2, fun b y hb hb2 => by omega⟩), HC2, HR2, HB2⟩
          case round =>
            obtain ⟨c2, k, rfl, hki, hkn, rfl, E, HI3, HT2, HF2, HC3, HR3, HB3⟩ := hrel
            (try clear HS)
            (try clear HC2 HR2 HB2)
            clear wi
            obtain ⟨wi, rfl⟩ : ∃ wi : World, wi = wr := ⟨_, rfl⟩
            obtain ⟨b, gu, cap, htq, hown, hg1, hg2, hg3⟩ := HC3.out
            have HTQ := hid htq
            have HOW := hid hown
            have t0 := htq.c0
            have t1 := htq.c1
            by_cases hk : k < n
            · have hdk : decide ((k : Int) < (n : Int)) = true := by simp; omega
              have hlt := pat_lt hin hk
              rw [← HNN.out] at hlt
              obtain ⟨x, hx⟩ : ∃ x : Nat, x = i * n := ⟨_, rfl⟩
              have hmul : (i : Int) * (n : Int) = (x : Int) := by rw [hx]; push_cast; rfl
              rw [← hx] at hlt
              obtain ⟨g', cap', hv, hgb3, hgl3, hc, hf⟩ := row_at9 hown (j := x + k) hlt
              cases hv
              have hval : flP n E (x + k) = E i k := by rw [hx]; exact flP_at E hk
              rw [hval] at hc
              have HVAL := hid hval
              have HX := hid hx
              clear htq hown hx hval
              have i0' : (0 : Int) ≤ (x : Int) + (k : Int) := by omega
              have i1' : (x : Int) + (k : Int) < (nn : Int) := by omega
              have it : ((x : Int) + (k : Int)).toNat = x + k := by omega
              have iw : IntKind.i64.wrap ((x : Int) + (k : Int)) = (x : Int) + (k : Int) := IntWalk.i64_in _ (by omega)
              go_wp2_with fail
              clear t0 t1 hc hf i0' i1' it iw hlt hmul
              go_loopw [9, 10] (fun r v wr => ∃ y : Nat, y ≤ n ∧ v = .int .i64 (y : Int) ∧ r = .int .i64 ((byQ E i k y : Nat) : Int) ∧ Hid (Below wi.heap.size wi wr)) (fun _ v _ => n - (intOf v).toNat)
              case atStart => exact ⟨0, by omega, rfl, rfl, hid (Below.refl _ _)⟩
              case round =>
                obtain ⟨y, hy, rfl, rfl, HBy⟩ := hrel
                (try clear HS)
                obtain ⟨wj, rfl⟩ : ∃ wj : World, wj = wr := ⟨_, rfl⟩
                have HTj := hid (HTQ.out.below HBy.out HTQ.out.lt)
                have HOj := hid (own_bel HOW.out HBy.out)
                have t0 := HTj.out.c0
                have t1 := HTj.out.c1
                by_cases hyn : y < n
                · have hdy : decide ((y : Int) < (n : Int)) = true := by simp; omega
                  have HTT := hid (own_bel HT0.out (HB3.out.trans (HBy.out.mono HB3.out.size)))
                  obtain ⟨x, hx⟩ : ∃ x : Nat, x = i * n := ⟨_, rfl⟩
                  obtain ⟨z, hz⟩ : ∃ z : Nat, z = y * n := ⟨_, rfl⟩
                  have hmul : (i : Int) * (n : Int) = (x : Int) := by rw [hx]; push_cast; rfl
                  have hmuz : (y : Int) * (n : Int) = (z : Int) := by rw [hz]; push_cast; rfl
                  have hlt := pat_lt hin hyn
                  have hltz := pat_lt hyn hk
                  rw [← HNN.out, ← hx] at hlt
                  rw [← HNN.out, ← hz] at hltz
                  obtain ⟨g1', cap1', hv1, _, _, hc1, _⟩ := row_at9 HOj.out (j := x + y) hlt
                  obtain ⟨g2', cap2', hv2, _, _, hc2, _⟩ := row_at9 HOj.out (j := z + k) hltz
                  cases hv1
                  cases hv2
                  have e1 : flP n E (x + y) = E i y := by rw [hx]; exact flP_at E hyn
                  have e2 : flP n E (z + k) = E y k := by rw [hz]; exact flP_at E hk
                  rw [e1] at hc1
                  rw [e2] at hc2
                  have a8 := HI3.out.ok.lt i y hin hyn
                  have b8 := HI3.out.ok.lt y k hyn hk
                  have hq8 := (byQ_sub HI3.out.ok hin hk y (by omega)).1
                  have c8 := cpn_lt a8 b8
                  have HBQ : Hid (byQ E i k (y + 1) = (byQ E i k y &&& cpn (E i y) (E y k))) := hid rfl
                  have han := and_natW hq8 c8
                  clear hx hz e1 e2
                  generalize E i y = a at *
                  generalize E y k = bb at *
                  obtain ⟨g3', cap3', hv3, _, _, hc3, _⟩ := row_at9 HTT.out (j := 8 * a + bb) (by omega)
                  cases hv3
                  rw [cpT_at b8] at hc3
                  generalize cpn a bb = cc at *
                  have i0' : (0 : Int) ≤ (x : Int) + (y : Int) := by omega
                  have i1' : (x : Int) + (y : Int) < (nn : Int) := by omega
                  have it : ((x : Int) + (y : Int)).toNat = x + y := by omega
                  have iw : IntKind.i64.wrap ((x : Int) + (y : Int)) = (x : Int) + (y : Int) := IntWalk.i64_in _ (by omega)
                  have j0' : (0 : Int) ≤ (z : Int) + (k : Int) := by omega
                  have j1' : (z : Int) + (k : Int) < (nn : Int) := by omega
                  have jt : ((z : Int) + (k : Int)).toNat = z + k := by omega
                  have jw : IntKind.i64.wrap ((z : Int) + (k : Int)) = (z : Int) + (k : Int) := IntWalk.i64_in _ (by omega)
                  have k0' : (0 : Int) ≤ 8 * (a : Int) + (bb : Int) := by omega
                  have k1' : 8 * (a : Int) + (bb : Int) < 64 := by omega
                  have kt : (8 * (a : Int) + (bb : Int)).toNat = 8 * a + bb := by omega
                  have kw : IntKind.i64.wrap (8 * (a : Int) + (bb : Int)) = 8 * (a : Int) + (bb : Int) := IntWalk.i64_in _ (by omega)
                  have kx : IntKind.i64.wrap (8 * (a : Int)) = 8 * (a : Int) := IntWalk.i64_in _ (by omega)
                  go_wp2_with fail
                  go_quiet (fail)
                  have HBn := hid (below_drewN' HBy.out nq)
                  go_wp2
                  go_roundw
                  case rel => exact ⟨y + 1, by omega, by go_num, by rw [HBQ.out], HBn⟩
                  case measure => simp [intOf]; omega
                · obtain rfl : y = n := by omega
                  have hdy : decide ((y : Int) < (y : Int)) = false := by simp
                  obtain ⟨x, hx⟩ : ∃ x : Nat, x = i * y := ⟨_, rfl⟩
                  have hmul : (i : Int) * (y : Int) = (x : Int) := by rw [hx]; push_cast; rfl
                  have hlt := pat_lt hin hk
                  rw [← HNN.out, ← hx] at hlt
                  obtain ⟨g1', cap1', hv1, _, _, hc1, _⟩ := row_at9 HOj.out (j := x + k) hlt
                  cases hv1
                  have e1 : flP y E (x + k) = E i k := by rw [hx]; exact flP_at E hk
                  rw [e1] at hc1
                  have i0' : (0 : Int) ≤ (x : Int) + (k : Int) := by omega
                  have i1' : (x : Int) + (k : Int) < (nn : Int) := by omega
                  have it : ((x : Int) + (k : Int)).toNat = x + k := by omega
                  have iw : IntKind.i64.wrap ((x : Int) + (k : Int)) = (x : Int) + (k : Int) := IntWalk.i64_in _ (by omega)
                  clear hx e1
                  have HBj := hid (HB3.out.trans (HBy.out.mono HB3.out.size))
                  have HRj := hid (HR3.out.below HBy.out HR3.out.lt)
                  have hik : i < k := by omega
                  obtain ⟨bs1, bs2, bs3⟩ := byQ_sub HI3.out.ok hin hk y (Nat.le_refl y)
                  by_cases heq : byQ E i k y = E i k
                  · have hq : (((byQ E i k y : Nat) : Int) != ((E i k : Nat) : Int)) = false := by rw [heq]; simp
                    have HSM := hid (byQ_same HI3.out.ok hin hk heq)
                    have HFN := hid (show c2 = false → muP y E = muP y C ∧ (∀ a b z, a < i → a < b → b < y → z < y → Tri E a z b) ∧ ∀ b z, i < b → b < k + 1 → z < y → Tri E i z b from fun h => by
                      obtain ⟨q1, q2, q3⟩ := HF2.out h
                      refine ⟨q1, q2, fun b z hb hb2 hz => ?_⟩
                      by_cases e : b = k
                      · rw [e]; exact HSM.out z hz
                      · exact q3 b z hb (by omega) hz)
                    have HCj := hid (show Cb w wj y nn E from ⟨b, gu, cap, HTj.out, HOj.out, hg1, hg2, Nat.lt_of_lt_of_le hg3 HBy.out.size⟩)
                    clear heq bs1 bs2 bs3
                    generalize byQ E i k y = r at *
                    go_wp2_with fail
                    refine ⟨?_, ?measure⟩
                    · exact ⟨c2, k + 1, rfl, by omega, by omega, by go_num, E, HI3, HT2, HFN, HCj, HRj, HBj⟩
                    case measure => simp [intOf]; omega
                  · have hq : (((byQ E i k y : Nat) : Int) != ((E i k : Nat) : Int)) = true := by rw [bne_iff_ne]; omega
                    have HPI := hid (HI3.out.pair hin hk (show i ≠ k by omega))
                    have HMU := hid (show muP y (putQ E i k (byQ E i k y)) < muP y C by
                      have h1 : muP y (putQ E i k (byQ E i k y)) < muP y E := mu_less HPI.out.ok HI3.out.ok (by
                        have := put_sub HI3.out.ok hin hk (show i ≠ k by omega) bs1
                        rw [and_sb bs2] at this
                        exact this) hin hk (by rw [putQ_at]; exact heq)
                      cases c2
                      · have := (HF2.out rfl).1; omega
                      · have := HT2.out rfl; omega)
                    clear heq bs2 bs3
                    generalize byQ E i k y = r at *
                    have HOp := hid (show wj.ownsRow b 3 1 (.slice (some ⟨gu, 0, none⟩) nn cap) (y * y) (rL9 (flP y E) (y * y)) by rw [← HNN.out]; exact HOj.out)
                    go_wp2_with fail
                    (with_reducible refine (l9Put_any y h12 _ i k r hin hk bs1 _ _ _ HOp.out).mono ?_)
                    rintro e w7 ⟨⟨u', rfl, hown'⟩, hb'⟩
                    have HO7 := hid (own_ext9 hown' (fun q hq => put_rowW hin hk (show i ≠ k by omega) hq))
                    clear hown'
                    obtain ⟨gn, capn, rfl, hgn1, hgn2⟩ := HO7.out.form (by have := HNN.out; omega)
                    have HT7 := hid (HTj.out.below hb' HTj.out.lt)
                    have HR7 := hid (HRj.out.below hb' HRj.out.lt)
                    have HB7 := hid (HBj.out.trans (hb'.mono HBj.out.size))
                    have s7 := hb'.size
                    have HSZ7 := hid (show w.heap.size + 1 < wj.heap.size from HRj.out.lt)
                    clear hb' t0 t1
                    have t0 := HT7.out.c0
                    have t1 := HT7.out.c1
                    have tf0 := HT7.out.fr 0
                    have tf1 := HT7.out.fr 1
                    have HC8 := hid (show Cb w ((w7.setCell ⟨w.heap.size, 0, none⟩ (.int .i64 (y : Int))).setCell ⟨w.heap.size, 1, none⟩ (.slice (some ⟨gn, 0, none⟩) (y * y) capn)) y nn (putQ E i k r) by
                      refine ⟨wj.heap.size + 1 + 1, gn, capn, ?_, ?_, by have := HSZ7.out; omega, by have := HSZ7.out; omega, by simpa using hgn2⟩
                      · rw [HNN.out]; exact (HT7.out.set0 (z' := (y : Int))).set1 _
                      · rw [HNN.out]; exact own_set9 (own_set9 HO7.out (p := ⟨w.heap.size, 0, none⟩) (by show w.heap.size < _; have := HSZ7.out; omega) _) (p := ⟨w.heap.size, 1, none⟩) (by show w.heap.size < _; have := HSZ7.out; omega) _)
                    have HR8 := hid ((HR7.out.far (p := ⟨w.heap.size, 0, none⟩) (show w.heap.size + 1 ≠ w.heap.size by omega) (.int .i64 (y : Int))).far (p := ⟨w.heap.size, 1, none⟩) (show w.heap.size + 1 ≠ w.heap.size by omega) (.slice (some ⟨gn, 0, none⟩) (y * y) capn))
                    have HB8 := hid ((HB7.out.setCell (p := ⟨w.heap.size, 0, none⟩) (Nat.le_refl _) (.int .i64 (y : Int))).setCell (p := ⟨w.heap.size, 1, none⟩) (Nat.le_refl _) (.slice (some ⟨gn, 0, none⟩) (y * y) capn))
                    go_wp2_with fail
                    refine ⟨?_, ?measure⟩
                    · exact ⟨true, k + 1, rfl, by omega, by omega, by go_num, _, HPI, hid (fun _ => HMU.out), hid (fun h => by cases h), HC8, HR8, HB8⟩
                    case measure => simp [intOf]; omega
            · obtain rfl : k = n := by omega
              have hdk : decide ((k : Int) < (k : Int)) = false := by simp
              have HFN := hid (show c2 = false → muP k E = muP k C ∧ ∀ a b z, a < i + 1 → a < b → b < k → z < k → Tri E a z b from fun h => by
                obtain ⟨q1, q2, q3⟩ := HF2.out h
                refine ⟨q1, fun a b z ha hab hb hz => ?_⟩
                by_cases e : a = i
                · rw [e]; exact q3 b z (by omega) hb hz
                · exact q2 a b z (by omega) hab hb hz)
              clear htq hown
              go_wp2_with fail
              refine ⟨?_, ?measure⟩
              · exact ⟨c2, i + 1, rfl, by omega, by go_num, E, HI3, HT2, HFN, HC3, HR3, HB3⟩
              case measure => simp [intOf]; omega
        · obtain rfl : i = n := by omega
          have hdi : decide ((i : Int) < (i : Int)) = false := by simp
          have HDN := hid (show c1 = false → IsClo i N D from fun h => HI2.out.done fun a b y hab hb hy => (HF1.out h).2 a b y (by omega) hab hb hy)
          have HMM := hid (show muC w i nn (.bool c1) wi < muC w i nn (.bool true) wr by
            rw [HM0.out]
            cases c1
            · rw [muC_false]; omega
            · rw [muC_true HNN.out HC2.out HI2.out.ok]
              have := HT1.out rfl
              omega)
          clear htq hown
          go_wp2_with fail
          refine ⟨?_, ?measure⟩
          · exact ⟨c1, rfl, D, HI2, HDN, HC2, HR2, HB2⟩
          case measure => exact HMM.out
end Go.Proofs.YtmdgkhebefnfeaaDoor.C
