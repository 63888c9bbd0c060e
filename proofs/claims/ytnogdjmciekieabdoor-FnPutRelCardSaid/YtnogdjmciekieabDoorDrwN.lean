/- The draws of networks. -/
import Derived.Test.YtnogdjmciekieabDoorNetZ
import Derived.Test.YtnogdjmciekieabDoorDrawTwo
import Derived.Test.YtnogdjmciekieabDoorDrawRel
import Derived.Test.YtnogdjmciekieabDoorHulS
import Derived.Test.YtnogdjmciekieabDoorBasP
import Derived.Test.YtnogdjmciekieabDoorPas
namespace Go.Proofs.YtnogdjmciekieabDoor.C
open Go.RowKit
set_option linter.unusedVariables false
set_option linter.unusedSimpArgs false
theorem sh_d {k : Nat} (h : k < 13) : IntKind.i64.wrap ((2 : Int) ^ k) = ((2 ^ k : Nat) : Int) := by
  rcases nat13 h with rfl | rfl | rfl | rfl | rfl | rfl | rfl | rfl | rfl | rfl | rfl | rfl | rfl <;> decide +kernel
theorem own_bd {w : World} {B B' e size n : Nat} {v : Value} {xs : List Value} (h : w.ownsRow B e size v n xs) (hB : B' ≤ B) : w.ownsRow B' e size v n xs := by
  refine ⟨h.1, ?_⟩
  rcases h.2 with h1 | ⟨g, cap, cur, h1, h2, h3⟩
  · exact .inl h1
  · exact .inr ⟨g, cap, cur, h1, Nat.le_trans hB h2, h3⟩
/-- What a draw of one network leaves. -/
def DrewN (good : Int → ByteArray → Prop) (B q m : Nat) (w : World) (e : Ending) (w' : World) : Prop :=
  ∃ (z : Int) (s : ByteArray), good z s ∧ e = .returned (.agg #[.int .i64 z, .string s]) ∧ Rd B w' q m ∧ Wr q w w'
theorem own_wr {w w' : World} {b e size n q : Nat} {v : Value} {xs : List Value} (h : w.ownsRow b e size v n xs) (hw : Wr q w w') (hq : q < b) : w'.ownsRow b e size v n xs := by
  obtain ⟨h1, h2⟩ := h
  refine ⟨h1, h2.imp id ?_⟩
  rintro ⟨g, cap, cur, hv, hB, hg, r⟩
  exact ⟨g, cap, cur, hv, hB, (hw.block g (Array.getElem?_eq_some_iff.1 hg).1 (by omega)).trans hg, r⟩
def ivC (l : List (Int × Int)) : List Value := l.flatMap fun p => [.int .i64 p.1, .int .i64 p.2]
theorem ivC_snoc (l : List (Int × Int)) (f t : Int) : ivC (l ++ [(f, t)]) = ivC l ++ [.int .i64 f, .int .i64 t] := by simp [ivC]
theorem ivC_at : ∀ (l : List (Int × Int)) (j : Nat), j < l.length → (ivC l)[2 * j]? = some (.int .i64 (l.getD j (0, 0)).1) ∧ (ivC l)[2 * j + 1]? = some (.int .i64 (l.getD j (0, 0)).2)
  | p :: l, 0, _ => by simp [ivC]
  | p :: l, j + 1, h => by
    have ih := ivC_at l j (by simpa using h)
    have e : ivC (p :: l) = .int .i64 p.1 :: .int .i64 p.2 :: ivC l := by simp [ivC]
    rw [e, show 2 * (j + 1) = 2 * j + 1 + 1 by omega]
    simpa using ih
theorem Wr.grown {q : Nat} {w w1 w' : World} {row : Option Nat} (h : Wr q w w1) (hg : w1.grownBy w' row) (hr : ∀ j, row = some j → w.heap.size ≤ j) : Wr q w w' :=
  ⟨hg.os.trans h.os, hg.tape.trans h.tape, hg.output.trans h.output, Nat.le_trans h.size hg.size, fun k hk hq => (hg.block k (Nat.lt_of_lt_of_le hk h.size) (fun e => by have := hr k e.symm; omega)).trans (h.block k hk hq)⟩
theorem add_two (g j : Nat) : (⟨g, 0, none⟩ : Addr).add (2 * j) = ⟨g, j * 2, none⟩ := by unfold Addr.add; split <;> simp_all [Nat.mul_comm]
theorem dnInfo : (Tryd.prog.info? 46).map (fun i => (i.zero, i.size, i.bytes)) = some (some (.agg #[.int .i64 0, .int .i64 0]), 2, 16) := by kernel_rfl
theorem Nk.wr {w w' : World} {g q : Nat} {z : Int} {s : ByteArray} (h : Nk w g z s) (hw : Wr q w w') (hg : g ≠ q) : Nk w' g z s := (hw.block g h.lt hg).trans h
theorem Tk.wr {w w' : World} {g q : Nat} {z : Int} {v : Value} (h : Tk w g z v) (hw : Wr q w w') (hg : g ≠ q) : Tk w' g z v := (hw.block g h.lt hg).trans h
set_option maxHeartbeats 4000000 in
set_option maxRecDepth 100000 in
theorem l5Draw_any (B q m : Nat) (n : Nat) (h1 : 1 ≤ n) (h6 : n ≤ 6) (w : World) (h : Rd B w q m) (hm : m ≤ 1000000) (hB : B ≤ w.heap.size) :
    Calls Tryd.prog 107 #[.pointer (some ⟨q, 0, none⟩), .int .i64 n] w (DrewN (fun z s => ∃ R, OkR n R ∧ z = (n : Nat) ∧ s = netS n R) B q (m + 300) w) := by
  obtain ⟨i0, hi0, hz0, hz1, hz2⟩ := info_parts dnInfo
  have hq := h.lt
  have hbq := h.le
  have HR := hid (h.alloc (.cells #[.int .i64 0, .string ⟨#[]⟩] 24))
  have HK := hid (Nk.made w 0 ⟨#[]⟩)
  have HW := hid (Wr.alloc q w (.cells #[.int .i64 0, .string ⟨#[]⟩] 24))
  clear h
  have HS := AllLt.start w; go_enter Tryd.func107, Tryd.ntmps107
  go_upto_region 1 with fail
  have hzw : (w.alloc (.cells #[.int .i64 0, .string ⟨#[]⟩] 24)).heap.size = w.heap.size + 1 := by rw [World.size_alloc]
  generalize w.alloc (.cells #[.int .i64 0, .string ⟨#[]⟩] 24) = w0 at *
  go_wp2_with fail
  (with_reducible refine (l5Free_own n h6 _).mono ?_)
  rintro e w1 ⟨⟨u, rfl, hown⟩, hb⟩
  obtain ⟨a, c, rfl⟩ := own_slice hown
  have hz1' := hb.size
  have HO := hid (hown.alloc (.cells #[.int .i64 n, .slice a (n * n) c] 85))
  have HT := hid (Tk.made w1 n (.slice a (n * n) c))
  have HK1 := hid (nk_alloc (HK.out.below hb HK.out.lt) (.cells #[.int .i64 n, .slice a (n * n) c] 85))
  have HR1 := hid ((HR.out.below hb HR.out.lt).alloc (.cells #[.int .i64 n, .slice a (n * n) c] 85))
  have HW1 := hid ((HW.out.trans (Wr.of_below hb)).trans (Wr.alloc q w1 (.cells #[.int .i64 n, .slice a (n * n) c] 85)))
  clear hown hb
  go_upto_region 2 with fail
  have hz2' : (w1.alloc (.cells #[.int .i64 n, .slice a (n * n) c] 85)).heap.size = w1.heap.size + 1 := by rw [World.size_alloc]
  generalize w1.alloc (.cells #[.int .i64 n, .slice a (n * n) c] 85) = w2 at *
  go_wp2_with fail
  refine (pick_any B q m _ _ HR1.out (by omega) (by omega) (by omega)).mono ?_
  rintro e w3 ⟨kd, hkd, rfl, hR3, hW3⟩
  have hz3' := hW3.size
  have HO3 := hid (own_wr HO.out hW3 (by omega))
  have HT3 := hid (HT.out.wr hW3 (by omega))
  have HK3 := hid (HK1.out.wr hW3 (by omega))
  have HR3 := hid hR3
  have HW3 := hid (HW1.out.trans hW3)
  clear hR3 hW3 HO HT HK1 HR1 HW1 HS
  have HS := AllLt.start w3
  have HE3 := hid (show (w3.alloc (.cells #[] 46)).ownsRow w3.heap.size 46 2 (.slice (some ⟨w3.heap.size, 0, none⟩) 0 0) 0 [] from
    World.ownsRow_made (base := w3.heap.size) (e := 46) (size := 2) w3 #[] 0 (Nat.le_refl _) (by decide) rfl)
  go_upto_region 4 with fail
  have hz4 : (w3.alloc (.cells #[] 46)).heap.size = w3.heap.size + 1 := by rw [World.size_alloc]
  have HO4 := hid (HO3.out.alloc (.cells #[] 46))
  have HT4 := hid (HT3.out.alloc (.cells #[] 46))
  have HK4 := hid (nk_alloc HK3.out (.cells #[] 46))
  have HW34 := hid (Wr.alloc q w3 (.cells #[] 46))
  have HR4 := hid (HR3.out.alloc (.cells #[] 46))
  have HW4 := hid (HW3.out.trans (Wr.alloc q w3 (.cells #[] 46)))
  clear HK HR HW HO4 HT4 HK4 HW4 HR3
  generalize w3.alloc (.cells #[] 46) = w4 at *
  go_wp2_with fail
  go_loopw [7, 8] (fun v a wr => ∃ i : Nat, i ≤ n ∧ a = .int .i64 i ∧ ∃ l : List (Int × Int), l.length = i ∧ Hid (∀ p ∈ l, iv p.1 p.2 = true) ∧ Hid (wr.ownsRow w3.heap.size 46 2 v i (ivC l)) ∧ Hid (Rd B wr q (m + 1 + 2 * i)) ∧ Hid (Wr q w3 wr)) (fun _ a _ => n - (intOf a).toNat)
  case atStart => exact ⟨0, by omega, rfl, [], rfl, hid (by simp), HE3, HR4, HW34⟩
  case round =>
    obtain ⟨i, hi, rfl, l, hl, HV, HL, HRr, HWr⟩ := hrel
    (try clear HS)
    obtain ⟨wi, rfl⟩ : ∃ wi : World, wi = wr := ⟨_, rfl⟩
    have hzi := HWr.out.size
    by_cases hin : i < n
    · have hdi : decide ((i : Int) < (n : Int)) = true := by simp; omega
      go_wp2_with fail
      refine (l2Draw_any B q (m + 1 + 2 * i) _ HRr.out (by omega) (by omega)).mono ?_
      rintro e w5 ⟨f, t, ⟨g1, g2, g3, g4⟩, rfl, hR5, hW5⟩
      have hz5 := hW5.size
      have HL5 := hid (own_wr HL.out hW5 (by omega))
      have HR5 := hid hR5
      have HW5 := hid (HWr.out.trans hW5)
      have HV5 := hid (show ∀ p ∈ l ++ [(f, t)], iv p.1 p.2 = true from fun p hp => by
        rcases List.mem_append.1 hp with hp | hp
        · exact HV.out p hp
        · rw [List.mem_singleton.1 hp, iv_iff]; omega)
      clear hR5 hW5 HRr HWr HL HV g1 g2 g3 g4
      go_wp2_with (at_builtin; refine wpList_append_own _ rfl _ _ 39 rfl w3.heap.size 46 i0 _ 2 16 Tryd.underlying39 hi0 hz0 hz1 hz2 rfl (by decide) _ _ _ rfl (HL5.out.alloc _) ⟨w5.heap.size, 0, none⟩ 1 1 [.int .i64 f, .int .i64 t] rfl rfl ?c1 ?c2 ?c3 ?c4 ?c5 ?_)
      case c1 =>
        intro j u hj
        match j, hj with
        | 0, hj => simp at hj; subst hj; simp [Addr.add]
        | 1, hj => simp at hj; subst hj; simp [Addr.add]
      case c2 => intro u hu; simp at hu; rcases hu with rfl | rfl <;> rfl
      case c3 => unfold maxLen; omega
      case c4 => omega
      case c5 => simp; omega
      intro v' w6 hown' hgrow _
      have HW6 := hid (show Wr q w3 w6 from (HW5.out.trans (Wr.alloc q w5 _)).grown hgrow (fun j hj => (HL5.out.lt j hj).1))
      have HR6 := hid (show Rd B w6 q (m + 1 + 2 * (i + 1)) from (Rd.below HR5.out (((Below.refl w3.heap.size w5).alloc (by omega) _).grown hgrow (by simp; omega) (fun j hj => (HL5.out.lt j hj).1)) (by omega)).mono (by omega))
      have HL6 : Hid (w6.ownsRow w3.heap.size 46 2 v' (i + 1) (ivC (l ++ [(f, t)]))) := hid (by rw [ivC_snoc]; exact hown')
      clear hown' hgrow
      go_wp2
      go_roundw
      case rel => exact ⟨i + 1, by omega, by go_num, l ++ [(f, t)], by simp [hl], HV5, HL6, HR6, HW6⟩
      case measure => simp [intOf]; omega
    · obtain rfl : i = n := by omega
      have hdi : decide ((i : Int) < (i : Int)) = false := by simp
      go_wp2_with fail
      obtain ⟨al, cl, rfl⟩ := own_slice HL.out
      have HO := hid (own_bd (own_wr HO3.out HWr.out (by omega)) (show w.heap.size + 1 ≤ _ by omega))
      have HT := hid (HT3.out.wr HWr.out (by omega))
      have HK := hid (HK3.out.wr HWr.out (by omega))
      have HW := hid (HW3.out.trans HWr.out)
      have HRd := hid (HRr.out.mono (show m + 1 + 2 * i ≤ m + 20 + 5 * (0 * 6) by omega))
      have HF := hid (freR_ok h1 h6)
      have hzT : w1.heap.size + 1 ≤ w3.heap.size := by omega
      clear HO3 HT3 HK3 HW3 HWr HRr HE3 HR4 HW34
      go_wp2_with fail
      go_loopw [9] (fun b wr => ∃ x : Nat, x ≤ i ∧ b = .int .i64 x ∧ ∃ (R : Nat → Nat → Nat) (u : Value), OkR i R ∧ Hid (Tk wr w1.heap.size i u) ∧ Hid (wr.ownsRow (w.heap.size + 1) 3 1 u (i * i) (rowL (fl i R) (i * i))) ∧ Hid (Nk wr w.heap.size 0 ⟨#[]⟩) ∧ Hid (wr.ownsRow w3.heap.size 46 2 (.slice al i cl) i (ivC l)) ∧ Hid (Rd B wr q (m + 20 + 5 * (x * 6))) ∧ Hid (Wr q w wr) ∧ Hid (w3.heap.size ≤ wr.heap.size)) (fun b _ => i - (intOf b).toNat)
      case atStart => exact ⟨0, by omega, rfl, freR i, _, HF.out, HT, HO, HK, HL, HRd, HW, hid hzi⟩
      case round =>
        obtain ⟨x, hx, rfl, R, u, hR, HT, HO, HK, HL, HRd, HW, HZ⟩ := hrel
        (try clear HS)
        by_cases hxn : x < i
        · have hdx : decide ((x : Int) < (i : Int)) = true := by simp; omega
          go_wp2_with fail
          go_loopw [10] (fun b wr => ∃ k : Nat, x + 1 ≤ k ∧ k ≤ i ∧ b = .int .i64 k ∧ ∃ (R : Nat → Nat → Nat) (u : Value), OkR i R ∧ Hid (Tk wr w1.heap.size i u) ∧ Hid (wr.ownsRow (w.heap.size + 1) 3 1 u (i * i) (rowL (fl i R) (i * i))) ∧ Hid (Nk wr w.heap.size 0 ⟨#[]⟩) ∧ Hid (wr.ownsRow w3.heap.size 46 2 (.slice al i cl) i (ivC l)) ∧ Hid (Rd B wr q (m + 20 + 5 * (x * 6 + k))) ∧ Hid (Wr q w wr) ∧ Hid (w3.heap.size ≤ wr.heap.size)) (fun b _ => i - (intOf b).toNat)
          case atStart => exact ⟨x + 1, by omega, by omega, by go_num, R, u, hR, HT, HO, HK, HL, hid (HRd.out.mono (by omega)), HW, HZ⟩
          case round =>
            obtain ⟨k, hk1, hk2, rfl, R, u, hR, HT, HO, HK, HL, HRd, HW, HZ⟩ := hrel
            (try clear HS)
            obtain ⟨wi, rfl⟩ : ∃ wi : World, wi = wr := ⟨_, rfl⟩
            by_cases hkn : k < i
            · have hdk : decide ((k : Int) < (i : Int)) = true := by simp; omega
              have hdk2 : decide (k < i) = true := by simp; omega
              have hdx2 : decide (x < i) = true := by simp; omega
              obtain ⟨gl, cl', hcut, hgl1, hgl2⟩ := HL.out.form (by omega)
              cases hcut
              have hcell := HL.out.cells (g := gl) rfl
              have e0 : wi.cell? ⟨gl, x * 2, none⟩ = some (.int .i64 (l.getD x (0, 0)).1) := by
                have := hcell (2 * x) _ (ivC_at l x (by omega)).1
                have ea : (⟨gl, 0, none⟩ : Addr).add (2 * x) = ⟨gl, x * 2, none⟩ := add_two gl x
                rw [ea] at this; exact this
              have e1 : wi.cell? ⟨gl, x * 2 + 1, none⟩ = some (.int .i64 (l.getD x (0, 0)).2) := by
                have := hcell (2 * x + 1) _ (ivC_at l x (by omega)).2
                simpa [Addr.add, Nat.mul_comm] using this
              have e2 : wi.cell? ⟨gl, k * 2, none⟩ = some (.int .i64 (l.getD k (0, 0)).1) := by
                have := hcell (2 * k) _ (ivC_at l k (by omega)).1
                have ea : (⟨gl, 0, none⟩ : Addr).add (2 * k) = ⟨gl, k * 2, none⟩ := add_two gl k
                rw [ea] at this; exact this
              have e3 : wi.cell? ⟨gl, k * 2 + 1, none⟩ = some (.int .i64 (l.getD k (0, 0)).2) := by
                have := hcell (2 * k + 1) _ (ivC_at l k (by omega)).2
                simpa [Addr.add, Nat.mul_comm] using this
              have hm1 : l.getD x (0, 0) ∈ l := by
                rw [List.getD_eq_getElem?_getD, List.getElem?_eq_getElem (by omega)]; exact List.getElem_mem _
              have hm2 : l.getD k (0, 0) ∈ l := by
                rw [List.getD_eq_getElem?_getD, List.getElem?_eq_getElem (by omega)]; exact List.getElem_mem _
              obtain ⟨kk, hkk, hbat, _⟩ := lie_of (HV.out _ hm1) (HV.out _ hm2)
              have HREL := hid (l2Rel_any (l.getD x (0, 0)).1 (l.getD x (0, 0)).2 (l.getD k (0, 0)).1 (l.getD k (0, 0)).2)
              rw [hbat] at HREL
              generalize (l.getD x (0, 0)).1 = f1 at *
              generalize (l.getD x (0, 0)).2 = f2 at *
              generalize (l.getD k (0, 0)).1 = f3 at *
              generalize (l.getD k (0, 0)).2 = f4 at *
              clear hcell hm1 hm2 hbat
              have x0 : (0 : Int) ≤ (x : Int) := by omega
              have xi : (x : Int) < (i : Int) := by omega
              have k0 : (0 : Int) ≤ (k : Int) := by omega
              have ki : (k : Int) < (i : Int) := by omega
              obtain ⟨bb, hb8, hbb⟩ : ∃ bb : Nat, bb < 8192 ∧ IntKind.i64.wrap (2 ^ min (IntKind.u64.wrap (kk : Int)).toNat 64) = (bb : Int) :=
                ⟨2 ^ kk, pow_lt hkk, by rw [show min (IntKind.u64.wrap (kk : Int)).toNat 64 = kk by rw [IntKind.wrap_u64]; omega, sh_d hkk]⟩
              go_upto_region 14 with fail
              go_region_held3 (fun wx => wx.cell? ⟨gl, x * 2, none⟩ = some (.int .i64 f1) ∧ wx.cell? ⟨gl, x * 2 + 1, none⟩ = some (.int .i64 f2) ∧ wx.cell? ⟨gl, k * 2, none⟩ = some (.int .i64 f3) ∧ wx.cell? ⟨gl, k * 2 + 1, none⟩ = some (.int .i64 f4)) (first | exact ⟨e0, e1, e2, e3⟩ | exact ⟨(HX.cell (p := ⟨gl, x * 2, none⟩) hgl2).trans e0, (HX.cell (p := ⟨gl, x * 2 + 1, none⟩) hgl2).trans e1, (HX.cell (p := ⟨gl, k * 2, none⟩) hgl2).trans e2, (HX.cell (p := ⟨gl, k * 2 + 1, none⟩) hgl2).trans e3⟩)
                (first | (go_at_call 125; (with_reducible refine (HREL.out _).mono ?_); rintro e w' ⟨rfl, hb⟩; obtain ⟨HX, hz0, hz, hc, hf⟩ := bst (w0 := wi) (by go_grown) hb; clear hb hf hc hz hz0) | fail)
              all_goals
                go_wp2_with fail
                refine (pick_any B q (m + 20 + 5 * (x * 6 + k)) _ _ (HRd.out.below HX HRd.out.lt) (by omega) (by omega) (by omega)).mono ?_
                rintro e w5 ⟨c4, hc4, rfl, hR5, hW5⟩
                have hWx : Wr q wi w5 := (Wr.of_below HX).trans hW5
                have HT5 := hid (HT.out.wr hWx (by omega))
                have HO5 := hid (own_wr HO.out hWx (by omega))
                have HK5 := hid (HK.out.wr hWx (by omega))
                have HL5 := hid (own_wr HL.out hWx (by omega))
                have HR5 := hid hR5
                have HW5 := hid (HW.out.trans hWx)
                have HZ5 := hid (Nat.le_trans HZ.out hWx.size)
                clear HX hR5 hW5 hWx HT HO HK HL HRd HW HZ e0 e1 e2 e3 HREL
                by_cases q0 : c4 = 0
                · subst q0
                  go_wp2_with fail
                  go_roundw
                  case rel => exact ⟨k + 1, by omega, by omega, by go_num, R, u, hR, HT5, HO5, HK5, HL5, hid (HR5.out.mono (by omega)), HW5, HZ5⟩
                  case measure => simp [intOf]; omega
                · have b0 : ((c4 : Int) == 0) = false := by simp; omega
                  obtain ⟨gu, cu, rfl, hgu1, hgu2⟩ := HO5.out.form (Nat.mul_pos (by omega) (by omega))
                  have t0 := HT5.out.c0
                  have t1 := HT5.out.c1
                  by_cases q1 : c4 = 1
                  · subst q1
                    obtain ⟨bk, hbk, hmul⟩ : ∃ bk : Nat, bk < 8192 ∧ IntKind.i64.wrap ((bb : Int) * (kd : Int)) = (bk : Int) := by
                      have : kd = 0 ∨ kd = 1 := by omega
                      rcases this with rfl | rfl
                      · exact ⟨0, by omega, by simp; decide⟩
                      · exact ⟨bb, hb8, by rw [show ((1 : Nat) : Int) = 1 from rfl, Int.mul_one]; exact IntWalk.i64_in _ (by omega)⟩
                    go_upto_region 18 with fail
                    go_region_with (first
                      | (go_at_call 91; refine (l3Some_any B q (m + 20 + 5 * (x * 6 + k) + 1) _ (show Rd B (World.drew _) _ _ from HR5.out) (by omega)).mono ?_; rintro e w6 ⟨v, ⟨hv0, hv1⟩, rfl, hR6, hW6⟩; obtain ⟨vn, rfl⟩ := Int.eq_ofNat_of_zero_le hv0; have hWy : Wr q w5 w6 := ⟨hW6.os, hW6.tape, hW6.output, hW6.size, hW6.block⟩; have HTc := hid (HT5.out.wr hWy (by omega)); have HOc := hid (own_wr HO5.out hWy (by omega)); have HKc := hid (HK5.out.wr hWy (by omega)); have HLc := hid (own_wr HL5.out hWy (by omega)); have HRc := hid hR6; have HWc := hid (HW5.out.trans hWy); have HZc := hid (Nat.le_trans HZ5.out hWy.size); have z0 := HTc.out.c0; have z1 := HTc.out.c1; obtain ⟨r, hr8, hr⟩ : ∃ r : Nat, r < 8192 ∧ bits .or .i64 (vn : Int) (bk : Int) = (r : Int) := ⟨vn ||| bk, or_lt (by omega) hbk, i64_or vn bk (by omega) hbk⟩; clear hR6 hW6 hWy)
                      | (go_at_call 54; (with_reducible refine (l5Put_any i h6 (fl i R) x k r (by omega) (by omega) hr8 _ _ _ HOc.out).mono ?_); rintro e w7 ⟨⟨u', he, hown⟩, hb⟩; obtain ⟨g7, c7, rfl, hg71, hg72⟩ := hown.form (Nat.mul_pos (by omega) (by omega)); subst he; have HO7 := hid (own_ext hown fun y hy => put_row (R := R) (r := r) (by omega) (by omega) (by omega) hy); have HB7 := hid hb; have y0 := (hb.cell (p := ⟨w1.heap.size, 0, none⟩) HTc.out.lt).trans HTc.out.c0; have y1 := (hb.cell (p := ⟨w1.heap.size, 1, none⟩) HTc.out.lt).trans HTc.out.c1; have yf0 := (hb.frozen (p := ⟨w1.heap.size, 0, none⟩) HTc.out.lt).trans (HTc.out.fr 0); have yf1 := (hb.frozen (p := ⟨w1.heap.size, 1, none⟩) HTc.out.lt).trans (HTc.out.fr 1); clear hown hb)
                      | fail)
                    all_goals
                      have HP := hid (putR_ok hR (i := x) (k := k) (r := r) (by omega) (by omega) (by omega) hr8)
                      have hz6 := HZc.out
                      have hz7 := HB7.out.size
                      have HTf := hid ((HTc.out.below HB7.out HTc.out.lt).set0 (z' := (i : Int)) |>.set1 (.slice (some ⟨g7, 0, none⟩) (i * i) c7))
                      have HOf := hid (own_bd (own_far (own_far HO7.out (p := ⟨w1.heap.size, 0, none⟩) (show ¬ g7 = w1.heap.size by omega) (.int .i64 (i : Int))) (p := ⟨w1.heap.size, 1, none⟩) (show ¬ g7 = w1.heap.size by omega) (.slice (some ⟨g7, 0, none⟩) (i * i) c7)) (show w.heap.size + 1 ≤ _ by omega))
                      have HKf := hid (((HKc.out.below HB7.out HKc.out.lt).far (p := ⟨w1.heap.size, 0, none⟩) (show ¬ w.heap.size = w1.heap.size by omega) (.int .i64 (i : Int))).far (p := ⟨w1.heap.size, 1, none⟩) (show ¬ w.heap.size = w1.heap.size by omega) (.slice (some ⟨g7, 0, none⟩) (i * i) c7))
                      have HLf := hid (own_set (own_set (own_below' HLc.out HB7.out) (p := ⟨w1.heap.size, 0, none⟩) (show w1.heap.size < w3.heap.size by omega) (.int .i64 (i : Int))) (p := ⟨w1.heap.size, 1, none⟩) (show w1.heap.size < w3.heap.size by omega) (.slice (some ⟨g7, 0, none⟩) (i * i) c7))
                      have HRf := hid (((((HRc.out.below HB7.out HRc.out.lt).setOther (b := w1.heap.size) (by omega) (by omega) 0 (.int .i64 (i : Int))).setOther (b := w1.heap.size) (by omega) (by omega) 1 (.slice (some ⟨g7, 0, none⟩) (i * i) c7))).mono (show _ ≤ m + 20 + 5 * (x * 6 + (k + 1)) by omega))
                      have HWf := hid (((HWc.out.trans (Wr.of_below HB7.out)).setNew (b := w1.heap.size) (by omega) 0 (.int .i64 (i : Int))).setNew (b := w1.heap.size) (by omega) 1 (.slice (some ⟨g7, 0, none⟩) (i * i) c7))
                      clear HB7 HO7 y0 y1 yf0 yf1 z0 z1
                      go_wp2_with fail
                      go_roundw
                      case rel => exact ⟨k + 1, by omega, by omega, by go_num, putR R x k r, _, HP.out, HTf, HOf, HKf, HLf, HRf, HWf, hid (by simp only [World.size_setCell]; omega)⟩
                      case measure => simp [intOf]; omega
                  · have b1 : ((c4 : Int) == 1) = false := by simp; omega
                    by_cases q2 : c4 = 2
                    · subst q2
                      go_upto_region 20 with fail
                      go_region_with (first
                        | (go_at_call 77; refine (pick_any B q (m + 20 + 5 * (x * 6 + k) + 1) _ _ (show Rd B (World.drew _) _ _ from HR5.out) (by omega) (by omega) (by omega)).mono ?_; rintro e w6 ⟨j, hj, rfl, hR6, hW6⟩; have hWy : Wr q w5 w6 := ⟨hW6.os, hW6.tape, hW6.output, hW6.size, hW6.block⟩; have HTc := hid (HT5.out.wr hWy (by omega)); have HOc := hid (own_wr HO5.out hWy (by omega)); have HKc := hid (HK5.out.wr hWy (by omega)); have HLc := hid (own_wr HL5.out hWy (by omega)); have HRc := hid hR6; have HWc := hid (HW5.out.trans hWy); have HZc := hid (Nat.le_trans HZ5.out hWy.size); have z0 := HTc.out.c0; have z1 := HTc.out.c1; obtain ⟨p, hp8, hp⟩ : ∃ p : Nat, p < 8192 ∧ IntKind.i64.wrap (2 ^ min (IntKind.u64.wrap (j : Int)).toNat 64) = (p : Int) := ⟨2 ^ j, pow_lt (by omega), by rw [show min (IntKind.u64.wrap (j : Int)).toNat 64 = j by rw [IntKind.wrap_u64]; omega, sh_d (by omega)]⟩; obtain ⟨r, hr8, hr⟩ : ∃ ro : Nat, ro < 8192 ∧ bits .or .i64 (bb : Int) (p : Int) = (ro : Int) := ⟨bb ||| p, or_lt (by omega) hp8, i64_or bb p (by omega) hp8⟩; clear hR6 hW6 hWy)
                        | (go_at_call 126; (with_reducible refine (l4Hull_any r hr8 _).mono ?_); rintro e w8 ⟨rfl, hb⟩; have hWy : Wr q _ w8 := Wr.of_below hb; have hR6 := HRc.out.below hb HRc.out.lt; have HTc := hid (HTc.out.wr hWy (by omega)); have HOc := hid (own_wr HOc.out hWy (by omega)); have HKc := hid (HKc.out.wr hWy (by omega)); have HLc := hid (own_wr HLc.out hWy (by omega)); have HRc := hid hR6; have HWc := hid (HWc.out.trans hWy); have HZc := hid (Nat.le_trans HZc.out hWy.size); have z0 := HTc.out.c0; have z1 := HTc.out.c1; clear hR6 hWy hb)
                        | (go_at_call 54; (with_reducible refine (l5Put_any i h6 (fl i R) x k (hull r) (by omega) (by omega) (hull_lt r) _ _ _ HOc.out).mono ?_); rintro e w7 ⟨⟨u', he, hown⟩, hb⟩; obtain ⟨g7, c7, rfl, hg71, hg72⟩ := hown.form (Nat.mul_pos (by omega) (by omega)); subst he; have HO7 := hid (own_ext hown fun y hy => put_row (R := R) (r := (hull r)) (by omega) (by omega) (by omega) hy); have HB7 := hid hb; have y0 := (hb.cell (p := ⟨w1.heap.size, 0, none⟩) HTc.out.lt).trans HTc.out.c0; have y1 := (hb.cell (p := ⟨w1.heap.size, 1, none⟩) HTc.out.lt).trans HTc.out.c1; have yf0 := (hb.frozen (p := ⟨w1.heap.size, 0, none⟩) HTc.out.lt).trans (HTc.out.fr 0); have yf1 := (hb.frozen (p := ⟨w1.heap.size, 1, none⟩) HTc.out.lt).trans (HTc.out.fr 1); clear hown hb)
                        | fail)
                      all_goals
                        have HP := hid (putR_ok hR (i := x) (k := k) (r := (hull r)) (by omega) (by omega) (by omega) (hull_lt r))
                        have hz6 := HZc.out
                        have hz7 := HB7.out.size
                        have HTf := hid ((HTc.out.below HB7.out HTc.out.lt).set0 (z' := (i : Int)) |>.set1 (.slice (some ⟨g7, 0, none⟩) (i * i) c7))
                        have HOf := hid (own_bd (own_far (own_far HO7.out (p := ⟨w1.heap.size, 0, none⟩) (show ¬ g7 = w1.heap.size by omega) (.int .i64 (i : Int))) (p := ⟨w1.heap.size, 1, none⟩) (show ¬ g7 = w1.heap.size by omega) (.slice (some ⟨g7, 0, none⟩) (i * i) c7)) (show w.heap.size + 1 ≤ _ by omega))
                        have HKf := hid (((HKc.out.below HB7.out HKc.out.lt).far (p := ⟨w1.heap.size, 0, none⟩) (show ¬ w.heap.size = w1.heap.size by omega) (.int .i64 (i : Int))).far (p := ⟨w1.heap.size, 1, none⟩) (show ¬ w.heap.size = w1.heap.size by omega) (.slice (some ⟨g7, 0, none⟩) (i * i) c7))
                        have HLf := hid (own_set (own_set (own_below' HLc.out HB7.out) (p := ⟨w1.heap.size, 0, none⟩) (show w1.heap.size < w3.heap.size by omega) (.int .i64 (i : Int))) (p := ⟨w1.heap.size, 1, none⟩) (show w1.heap.size < w3.heap.size by omega) (.slice (some ⟨g7, 0, none⟩) (i * i) c7))
                        have HRf := hid (((((HRc.out.below HB7.out HRc.out.lt).setOther (b := w1.heap.size) (by omega) (by omega) 0 (.int .i64 (i : Int))).setOther (b := w1.heap.size) (by omega) (by omega) 1 (.slice (some ⟨g7, 0, none⟩) (i * i) c7))).mono (show _ ≤ m + 20 + 5 * (x * 6 + (k + 1)) by omega))
                        have HWf := hid (((HWc.out.trans (Wr.of_below HB7.out)).setNew (b := w1.heap.size) (by omega) 0 (.int .i64 (i : Int))).setNew (b := w1.heap.size) (by omega) 1 (.slice (some ⟨g7, 0, none⟩) (i * i) c7))
                        clear HB7 HO7 y0 y1 yf0 yf1 z0 z1
                        go_wp2_with fail
                        go_roundw
                        case rel => exact ⟨k + 1, by omega, by omega, by go_num, putR R x k (hull r), _, HP.out, HTf, HOf, HKf, HLf, HRf, HWf, hid (by simp only [World.size_setCell]; omega)⟩
                        case measure => simp [intOf]; omega
                    · obtain rfl : c4 = 3 := by omega
                      go_upto_region 22 with fail
                      go_region_with (first
                        | (go_at_call 77; refine (pick_any B q (m + 20 + 5 * (x * 6 + k) + 2) _ _ (show Rd B _ _ _ from HRc.out) (by omega) (by omega) (by omega)).mono ?_; rintro e w6 ⟨j, hj, rfl, hR6, hW6⟩; have hWy : Wr q _ w6 := ⟨hW6.os, hW6.tape, hW6.output, hW6.size, hW6.block⟩; have HTc := hid (HTc.out.wr hWy (by omega)); have HOc := hid (own_wr HOc.out hWy (by omega)); have HKc := hid (HKc.out.wr hWy (by omega)); have HLc := hid (own_wr HLc.out hWy (by omega)); have HRc := hid hR6; have HWc := hid (HWc.out.trans hWy); have HZc := hid (Nat.le_trans HZc.out hWy.size); have z0 := HTc.out.c0; have z1 := HTc.out.c1; obtain ⟨p, hp8, hp⟩ : ∃ p : Nat, p < 8192 ∧ IntKind.i64.wrap (2 ^ min (IntKind.u64.wrap (j : Int)).toNat 64) = (p : Int) := ⟨2 ^ j, pow_lt (by omega), by rw [show min (IntKind.u64.wrap (j : Int)).toNat 64 = j by rw [IntKind.wrap_u64]; omega, sh_d (by omega)]⟩; obtain ⟨r2, hr28, hr2⟩ : ∃ ro : Nat, ro < 8192 ∧ bits .or .i64 (r : Int) (p : Int) = (ro : Int) := ⟨r ||| p, or_lt (by omega) hp8, i64_or r p (by omega) hp8⟩; clear hR6 hW6 hWy)
                        | (go_at_call 77; refine (pick_any B q (m + 20 + 5 * (x * 6 + k) + 1) _ _ (show Rd B (World.drew _) _ _ from HR5.out) (by omega) (by omega) (by omega)).mono ?_; rintro e w6 ⟨j, hj, rfl, hR6, hW6⟩; have hWy : Wr q w5 w6 := ⟨hW6.os, hW6.tape, hW6.output, hW6.size, hW6.block⟩; have HTc := hid (HT5.out.wr hWy (by omega)); have HOc := hid (own_wr HO5.out hWy (by omega)); have HKc := hid (HK5.out.wr hWy (by omega)); have HLc := hid (own_wr HL5.out hWy (by omega)); have HRc := hid hR6; have HWc := hid (HW5.out.trans hWy); have HZc := hid (Nat.le_trans HZ5.out hWy.size); have z0 := HTc.out.c0; have z1 := HTc.out.c1; obtain ⟨p, hp8, hp⟩ : ∃ p : Nat, p < 8192 ∧ IntKind.i64.wrap (2 ^ min (IntKind.u64.wrap (j : Int)).toNat 64) = (p : Int) := ⟨2 ^ j, pow_lt (by omega), by rw [show min (IntKind.u64.wrap (j : Int)).toNat 64 = j by rw [IntKind.wrap_u64]; omega, sh_d (by omega)]⟩; obtain ⟨r, hr8, hr⟩ : ∃ ro : Nat, ro < 8192 ∧ bits .or .i64 (bb : Int) (p : Int) = (ro : Int) := ⟨bb ||| p, or_lt (by omega) hp8, i64_or bb p (by omega) hp8⟩; clear hR6 hW6 hWy)
                        | (go_at_call 54; (with_reducible refine (l5Put_any i h6 (fl i R) x k r2 (by omega) (by omega) hr28 _ _ _ HOc.out).mono ?_); rintro e w7 ⟨⟨u', he, hown⟩, hb⟩; obtain ⟨g7, c7, rfl, hg71, hg72⟩ := hown.form (Nat.mul_pos (by omega) (by omega)); subst he; have HO7 := hid (own_ext hown fun y hy => put_row (R := R) (r := r2) (by omega) (by omega) (by omega) hy); have HB7 := hid hb; have y0 := (hb.cell (p := ⟨w1.heap.size, 0, none⟩) HTc.out.lt).trans HTc.out.c0; have y1 := (hb.cell (p := ⟨w1.heap.size, 1, none⟩) HTc.out.lt).trans HTc.out.c1; have yf0 := (hb.frozen (p := ⟨w1.heap.size, 0, none⟩) HTc.out.lt).trans (HTc.out.fr 0); have yf1 := (hb.frozen (p := ⟨w1.heap.size, 1, none⟩) HTc.out.lt).trans (HTc.out.fr 1); clear hown hb)
                        | fail)
                      all_goals
                        have HP := hid (putR_ok hR (i := x) (k := k) (r := r2) (by omega) (by omega) (by omega) hr28)
                        have hz6 := HZc.out
                        have hz7 := HB7.out.size
                        have HTf := hid ((HTc.out.below HB7.out HTc.out.lt).set0 (z' := (i : Int)) |>.set1 (.slice (some ⟨g7, 0, none⟩) (i * i) c7))
                        have HOf := hid (own_bd (own_far (own_far HO7.out (p := ⟨w1.heap.size, 0, none⟩) (show ¬ g7 = w1.heap.size by omega) (.int .i64 (i : Int))) (p := ⟨w1.heap.size, 1, none⟩) (show ¬ g7 = w1.heap.size by omega) (.slice (some ⟨g7, 0, none⟩) (i * i) c7)) (show w.heap.size + 1 ≤ _ by omega))
                        have HKf := hid (((HKc.out.below HB7.out HKc.out.lt).far (p := ⟨w1.heap.size, 0, none⟩) (show ¬ w.heap.size = w1.heap.size by omega) (.int .i64 (i : Int))).far (p := ⟨w1.heap.size, 1, none⟩) (show ¬ w.heap.size = w1.heap.size by omega) (.slice (some ⟨g7, 0, none⟩) (i * i) c7))
                        have HLf := hid (own_set (own_set (own_below' HLc.out HB7.out) (p := ⟨w1.heap.size, 0, none⟩) (show w1.heap.size < w3.heap.size by omega) (.int .i64 (i : Int))) (p := ⟨w1.heap.size, 1, none⟩) (show w1.heap.size < w3.heap.size by omega) (.slice (some ⟨g7, 0, none⟩) (i * i) c7))
                        have HRf := hid (((((HRc.out.below HB7.out HRc.out.lt).setOther (b := w1.heap.size) (by omega) (by omega) 0 (.int .i64 (i : Int))).setOther (b := w1.heap.size) (by omega) (by omega) 1 (.slice (some ⟨g7, 0, none⟩) (i * i) c7))).mono (show _ ≤ m + 20 + 5 * (x * 6 + (k + 1)) by omega))
                        have HWf := hid (((HWc.out.trans (Wr.of_below HB7.out)).setNew (b := w1.heap.size) (by omega) 0 (.int .i64 (i : Int))).setNew (b := w1.heap.size) (by omega) 1 (.slice (some ⟨g7, 0, none⟩) (i * i) c7))
                        clear HB7 HO7 y0 y1 yf0 yf1 z0 z1
                        go_wp2_with fail
                        go_roundw
                        case rel => exact ⟨k + 1, by omega, by omega, by go_num, putR R x k r2, _, HP.out, HTf, HOf, HKf, HLf, HRf, HWf, hid (by simp only [World.size_setCell]; omega)⟩
                        case measure => simp [intOf]; omega
            · obtain rfl : k = i := by omega
              have hdk : decide ((k : Int) < (k : Int)) = false := by simp
              go_wp2_with fail
              go_roundw
              case rel => exact ⟨x + 1, by omega, by go_num, R, u, hR, HT, HO, HK, HL, hid (HRd.out.mono (by omega)), HW, HZ⟩
              case measure => simp [intOf]; omega
        · obtain rfl : x = i := by omega
          have hdx : decide ((x : Int) < (x : Int)) = false := by simp
          have t0 := HT.out.c0
          have t1 := HT.out.c1
          have HCL := hid (l5Close_any x u (x * x) (Nat.mul_le_mul h6 h6) (fl x R) (fun _ _ => hR.lt _ _) _ (ts_fl HO.out))
          go_wp2_with fail
          (with_reducible refine HCL.out.mono ?_)
          rintro e w9 ⟨rfl, hb⟩
          have hk := HK.out.below hb HK.out.lt
          have r0 := hk.c0
          have r1 := hk.c1
          have rf0 := hk.fr 0
          have rf1 := hk.fr 1
          have HR9 := hid ((HRd.out.below hb HRd.out.lt).mono (show m + 20 + 5 * (x * 6) ≤ m + 300 by omega))
          have HW9 := hid (HW.out.trans (Wr.of_below hb))
          clear hk hb t0 t1
          go_wp2_with fail
          refine bodyPost_ret (by simp [results, Tryd.results107, go_sem, *]; try rfl) rfl ?_
          exact ⟨_, _, ⟨R, hR, rfl, rfl⟩, rfl, (HR9.out.setOther hB (by omega) _ _).setOther hB (by omega) _ _, (HW9.out.setNew (Nat.le_refl _) _ _).setNew (Nat.le_refl _) _ _⟩
end Go.Proofs.YtnogdjmciekieabDoor.C
