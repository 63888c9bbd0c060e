/- The network of some intervals in the program. -/
import Derived.Test.YtnogdjmciekieaaDoorMee
import Derived.Test.YtnogdjmciekieaaDoorBasP
import Derived.Test.YtnogdjmciekieaaDoorBasic
import Derived.Test.YtnogdjmciekieaaDoorIvs
import Derived.Test.YtnogdjmciekieaaDoorPrs
namespace Go.Proofs.YtnogdjmciekieaaDoor.C
open Go.RowKit
set_option linter.unusedVariables false
set_option linter.unusedSimpArgs false
/-- the number of the basic relation of two of some intervals -/
def rlN (F T : Nat → Int) (i k : Nat) : Nat := (batI (zn (F i) (F k) (T k)) (zn (T i) (F k) (T k))).toNat
theorem rl_lie {n : Nat} {F T : Nat → Int} (h : ∀ i, i < n → iv (F i) (T i) = true) {i k : Nat} (hi : i < n) (hk : k < n) :
    rlN F T i k < 13 ∧ batI (zn (F i) (F k) (T k)) (zn (T i) (F k) (T k)) = ((rlN F T i k : Nat) : Int) ∧ Lie (F i) (T i) (F k) (T k) (rlN F T i k) := by
  obtain ⟨m, hm, he, hl⟩ := lie_of (h i hi) (h k hk)
  have e : rlN F T i k = m := by unfold rlN; rw [he]; simp
  rw [e]; exact ⟨hm, he, hl⟩
def novR (n : Nat) (F T : Nat → Int) (i k : Nat) : Nat := if i < n ∧ k < n then 2 ^ rlN F T i k else 0
theorem novR_in {n : Nat} {F T : Nat → Int} {i k : Nat} (hi : i < n) (hk : k < n) : novR n F T i k = 2 ^ rlN F T i k := if_pos ⟨hi, hk⟩
theorem nov_ok {n : Nat} {F T : Nat → Int} (h : plV n F T = true) : OkR n (novR n F T) := by
  obtain ⟨⟨h1, h6⟩, hv⟩ := plV_iff.1 h
  refine ⟨h1, h6, fun i k => ?_, fun i k hh => if_neg hh, fun i hi => ?_, fun i k hi hk => ?_⟩
  · unfold novR; split
    · rename_i hh
      exact pow_lt (rl_lie hv hh.1 hh.2).1
    · decide
  · rw [novR_in hi hi]
    have : rlN F T i i = 6 := by unfold rlN; rw [bat_self (hv i hi)]; rfl
    rw [this]
  · rw [novR_in hk hi, novR_in hi hk]
    obtain ⟨a, b, c⟩ := rl_lie hv hi hk
    have e : rlN F T k i = 12 - rlN F T i k := by
      have := bat_turn (hv i hi) (hv k hk) a c
      rw [show rlN F T k i = (batI (zn (F k) (F i) (T i)) (zn (T k) (F i) (T i))).toNat from rfl, this, Int.toNat_natCast]
    rw [e]
    generalize rlN F T i k = r at *
    have H : all13 (fun r => decide (2 ^ (12 - r) = turN (2 ^ r))) = true := by decide +kernel
    exact of_decide_eq_true (all13_of H a)
theorem nov_chg {n : Nat} {F T : Nat → Int} (h : plV n F T = true) : chR n (freR n) (fun a b => novR n F T a b) = novR n F T := by
  obtain ⟨⟨h1, h6⟩, hv⟩ := plV_iff.1 h
  have ho := nov_ok h
  exact okR_ext (chR_ok (freR_ok h1 h6) fun a b _ _ => ho.lt a b) ho fun a b h1 h2 => chR_pair h1 h2
theorem letS_one {k : Nat} (hk : k < 13) : letS [ltb k] = 2 ^ k := by
  have := letS_snoc [] hk
  rw [letS_nil] at this
  simpa using this
theorem lettersOf_ltr (k : Nat) (hk : k < 13) (w : World) (hT : TB w) :
    Calls Tryd.prog 35 #[.string (ltr k)] w fun e w' => e = .returned (.int .i64 ((2 ^ k : Nat) : Int)) ∧ Below w.heap.size w w' := by
  refine (letters_any (ltr k) w hT).mono ?_
  rintro e w' ⟨⟨n, rfl, hn, h⟩, hb⟩
  have ha : ∀ c ∈ (ltr k).data.toList, c.toNat < 128 := by
    have H : all13 (fun k => (ltr k).data.toList.all fun c => decide (c.toNat < 128)) = true := by decide +kernel
    intro c hc
    exact of_decide_eq_true (List.all_eq_true.1 (all13_of H hk) c hc)
  have e2 : letS (ltr k).data.toList = 2 ^ k := by
    rw [← letS_one hk]; rfl
  refine ⟨?_, hb⟩
  rw [h ha, e2]
set_option maxHeartbeats 2000000 in
set_option maxRecDepth 100000 in
theorem closNo_any (g b n cap : Nat) (F T : Nat → Int) (hv : plV n F T = true) (x r y : Nat) (hx : x < n) (hy : y < n) (w : World) (hT : TB w) (hg : w.cell? ⟨g, 0, none⟩ = some (.slice (some ⟨b, 0, none⟩) n cap)) (hR : Rv w b n F T) :
    Calls Tryd.prog 34 #[.agg #[.int .i64 x, .int .i64 r, .int .i64 y], .pointer (some ⟨g, 0, none⟩)] w fun e w' => e = .returned (.int .i64 ((novR n F T x y : Nat) : Int)) ∧ Below w.heap.size w w' := by
  have hgl := cell_lt hg
  have HBa := hid ((Below.refl w.heap.size w).alloc (Nat.le_refl _) (.cells #[.int .i64 (x : Int), .int .i64 (r : Int), .int .i64 (y : Int)] 72))
  have e0 := new_cell3 w (.int .i64 (x : Int)) (.int .i64 (r : Int)) (.int .i64 (y : Int)) 72
  obtain ⟨_, hvv⟩ := plV_iff.1 hv
  obtain ⟨k13, hbat, _⟩ := rl_lie hvv hx hy
  have hN := novR_in (F := F) (T := T) hx hy
  have HQ := hid hN
  have HS1 := hid (show boS (F x) (T x) (F y) (T y) = ltr (rlN F T x y) by rw [boS_t (hvv x hx) (hvv y hy), hbat, ltrI_nat])
  generalize rlN F T x y = k at *
  generalize novR n F T x y = q at *
  have hra := hR.below HBa.out
  have g0 : (w.alloc (.cells #[.int .i64 (x : Int), .int .i64 (r : Int), .int .i64 (y : Int)] 72)).cell? ⟨g, 0, none⟩ = some (.slice (some ⟨b, 0, none⟩) n cap) := (HBa.out.cell (p := ⟨g, 0, none⟩) hgl).trans hg
  have HTa := hid (hT.below HBa.out)
  obtain ⟨x0, x1⟩ := hra.2 x hx
  obtain ⟨y0, y1⟩ := hra.2 y hy
  have zb := hra.1
  have hzz : w.heap.size < (w.alloc (.cells #[.int .i64 (x : Int), .int .i64 (r : Int), .int .i64 (y : Int)] 72)).heap.size := by simp
  have zg : g < (w.alloc (.cells #[.int .i64 (x : Int), .int .i64 (r : Int), .int .i64 (y : Int)] 72)).heap.size := by simp; omega
  have hd1 : decide (x < n) = true := decide_eq_true hx
  have hd2 : decide (y < n) = true := decide_eq_true hy
  clear hg hR hT hv hvv hra hbat hN hgl
  have HS := AllLt.start w; go_enter Tryd.func34, Tryd.ntmps34
  go_upto_region 1 with fail
  generalize hwa : w.alloc (.cells #[.int .i64 (x : Int), .int .i64 (r : Int), .int .i64 (y : Int)] 72) = wa at *
  clear hwa
  obtain ⟨e0, e1, e2⟩ := e0
  generalize F x = a at *
  generalize T x = b1 at *
  generalize F y = c at *
  generalize T y = d at *
  go_region_held3 (fun wx => wx.cell? ⟨g, 0, none⟩ = some (.slice (some ⟨b, 0, none⟩) n cap) ∧ wx.cell? ⟨w.heap.size, 0, none⟩ = some (.int .i64 (x : Int)) ∧ wx.cell? ⟨w.heap.size, 2, none⟩ = some (.int .i64 (y : Int)) ∧ wx.cell? ⟨b, x * 2, none⟩ = some (.int .i64 a) ∧ wx.cell? ⟨b, x * 2 + 1, none⟩ = some (.int .i64 b1) ∧ wx.cell? ⟨b, y * 2, none⟩ = some (.int .i64 c) ∧ wx.cell? ⟨b, y * 2 + 1, none⟩ = some (.int .i64 d))
    (first | exact ⟨g0, e0, e2, x0, x1, y0, y1⟩ | exact ⟨by rw [HX.cell (p := ⟨g, 0, none⟩) zg]; exact g0, by rw [HX.cell (p := ⟨w.heap.size, 0, none⟩) hzz]; exact e0, by rw [HX.cell (p := ⟨w.heap.size, 2, none⟩) hzz]; exact e2, by rw [HX.cell (p := ⟨b, x * 2, none⟩) zb]; exact x0, by rw [HX.cell (p := ⟨b, x * 2 + 1, none⟩) zb]; exact x1, by rw [HX.cell (p := ⟨b, y * 2, none⟩) zb]; exact y0, by rw [HX.cell (p := ⟨b, y * 2 + 1, none⟩) zb]; exact y1⟩ | go_keep)
    (first | (go_at_call 36; (with_reducible refine (iBasicOf_any _ _ _ _ _ (HTa.out.below (by go_grown))).mono ?_); rintro e w' ⟨rfl, hb⟩; rw [HS1.out]; obtain ⟨HX, hz0, hz, hc, hf⟩ := bst (w0 := wa) (by go_grown) hb; clear hb hf hc hz hz0) | (go_at_call 35; (with_reducible refine (lettersOf_ltr _ k13 _ (HTa.out.below (by go_grown))).mono ?_); rintro e w' ⟨rfl, hb⟩; obtain ⟨HX, hz0, hz, hc, hf⟩ := bst (w0 := wa) (by go_grown) hb; clear hb hf hc hz hz0) | fail)
  all_goals
    go_wp2
    go_ret
    exact ⟨(show Ending.returned (.int .i64 ((2 ^ k : Nat) : Int)) = _ by rw [HQ.out]), HBa.out.trans (HX.mono HBa.out.size)⟩
/-- a slice that a variable holds -/
def Lk (w : World) (g : Nat) (v : Value) : Prop := w.cell? ⟨g, 0, none⟩ = some v
theorem Lk.below {w w' : World} {g : Nat} {v : Value} (h : Lk w g v) {B : Nat} (hb : Below B w w') (hg : g < B) : Lk w' g v := (hb.cell (p := ⟨g, 0, none⟩) hg).trans h
set_option maxHeartbeats 1000000 in
set_option maxRecDepth 100000 in
theorem iNetOf_size (v : Value) (a : Option Addr) (n cap : Nat) (hv : v = .slice a n cap) (h : ¬ (1 ≤ n ∧ n ≤ 6)) (w : World) :
    Calls Tryd.prog 10 #[v] w fun e w' => e = .returned (.tuple #[.agg #[.int .i64 0, .string ⟨#[]⟩], .bool false]) ∧ Below w.heap.size w w' := by
  subst hv
  have HF := hid (free_off (n : Int) (by omega))
  have HKr := hid (Nk.made (w.alloc (.cells #[.slice a n cap] 28)) 0 ⟨#[]⟩)
  have HB := hid (((Below.refl w.heap.size w).alloc (Nat.le_refl _) (.cells #[.slice a n cap] 28)).alloc (by simp) (.cells #[.int .i64 0, .string ⟨#[]⟩] 25))
  simp only [World.size_alloc] at HKr
  clear h
  have HS := AllLt.start w; go_enter Tryd.func10, Tryd.ntmps10
  go_wp2_with fail
  (with_reducible refine (HF.out _).mono ?_)
  rintro e w3 ⟨rfl, hb⟩
  have hz3 : w.heap.size + 1 < w3.heap.size := by have := hb.size; simp at this; omega
  have HA := hid (NB.made w3 0 fun _ _ => 0)
  have HX := hid (below_setRow (((Below.refl w3.heap.size w3).alloc (Nat.le_refl _) (.cells (netV 0 fun _ _ => 0) 65))) (g := w3.heap.size) (Nat.le_refl _) (netV 0 fun _ _ => 0))
  have HB3 := hid (HB.out.trans (hb.mono HB.out.size))
  have HK3 := hid ((HKr.out.below hb HKr.out.lt).below HX.out hz3)
  have HB4 := hid (HB3.out.trans (HX.out.mono HB3.out.size))
  clear hb HX
  go_upto_region 2 with (first | refine al_net rfl rfl ?_ | refine st_net rfl _ _ rfl rfl rfl HA.out ?_)
  (try simp only [World.size_alloc])
  generalize (w3.alloc (.cells (netV 0 fun _ _ => 0) 65)).setRow w3.heap.size (netV 0 fun _ _ => 0) = w4 at *
  have r0 := HK3.out.c0
  have r1 := HK3.out.c1
  have rf0 := HK3.out.fr 0
  have rf1 := HK3.out.fr 1
  go_wp2_with fail
  refine bodyPost_ret (by simp [results, Tryd.results10, go_sem, *]; try rfl) rfl ?_
  exact ⟨rfl, (HB4.out.setCell (p := ⟨w.heap.size + 1, 0, none⟩) (by simp) _).setCell (p := ⟨w.heap.size + 1, 1, none⟩) (by simp) _⟩
set_option maxHeartbeats 1000000 in
set_option maxRecDepth 100000 in
theorem iNetOf_bad (b cap n : Nat) (F T : Nat → Int) (w : World) (h1 : n ≤ cap) (hR : Rv w b n F T) (hn : 1 ≤ n ∧ n ≤ 6) (hv : alV n F T = false) :
    Calls Tryd.prog 10 #[.slice (some ⟨b, 0, none⟩) n cap] w fun e w' => e = .returned (.tuple #[.agg #[.int .i64 0, .string ⟨#[]⟩], .bool false]) ∧ Below w.heap.size w w' := by
  have HF := hid (free_on n hn.1 hn.2)
  have HKr := hid (Nk.made (w.alloc (.cells #[.slice (some ⟨b, 0, none⟩) n cap] 28)) 0 ⟨#[]⟩)
  have HB := hid (((Below.refl w.heap.size w).alloc (Nat.le_refl _) (.cells #[.slice (some ⟨b, 0, none⟩) n cap] 28)).alloc (by simp) (.cells #[.int .i64 0, .string ⟨#[]⟩] 25))
  have HLv := hid (show Lk ((w.alloc (.cells #[.slice (some ⟨b, 0, none⟩) n cap] 28)).alloc (.cells #[.int .i64 0, .string ⟨#[]⟩] 25)) w.heap.size (.slice (some ⟨b, 0, none⟩) n cap) from
    ((Below.refl (w.heap.size + 1) (w.alloc (.cells #[.slice (some ⟨b, 0, none⟩) n cap] 28))).alloc (by simp) _).cell (p := ⟨w.heap.size, 0, none⟩) (by simp) |>.trans (new_cell w _ _))
  simp only [World.size_alloc] at HKr
  have HR := hid hR
  have HV := hid hv
  clear hR hv
  have HS := AllLt.start w; go_enter Tryd.func10, Tryd.ntmps10
  go_wp2_with fail
  (with_reducible refine (HF.out _).mono ?_)
  rintro e w3 ⟨rfl, hb⟩
  have hz3 : w.heap.size + 1 < w3.heap.size := by have := hb.size; simp at this; omega
  have HA := hid (NB.made w3 0 fun _ _ => 0)
  have HX := hid (below_setRow (((Below.refl w3.heap.size w3).alloc (Nat.le_refl _) (.cells (netV 0 fun _ _ => 0) 65))) (g := w3.heap.size) (Nat.le_refl _) (netV n (freR n)))
  have HB3 := hid (HB.out.trans (hb.mono HB.out.size))
  have HK3 := hid ((HKr.out.below hb HKr.out.lt).below HX.out hz3)
  have HL3 := hid ((HLv.out.below hb (by simp; omega)).below HX.out (by omega))
  have HB4 := hid (HB3.out.trans (HX.out.mono HB3.out.size))
  clear hb HX
  go_upto_region 2 with (first | refine al_net rfl rfl ?_ | refine st_net rfl _ _ rfl rfl rfl HA.out ?_)
  (try simp only [World.size_alloc])
  generalize (w3.alloc (.cells (netV 0 fun _ _ => 0) 65)).setRow w3.heap.size (netV n (freR n)) = w4 at *
  have HC := hid (contIv_any b cap n F T w4 (by omega) h1 (HR.out.below HB4.out))
  rw [HV.out] at HC
  have l0 : w4.cell? ⟨w.heap.size, 0, none⟩ = _ := HL3.out
  go_wp2_with fail
  (with_reducible refine HC.out.mono ?_)
  rintro e w5 ⟨rfl, hb⟩
  have hz4 : w.heap.size + 1 < w4.heap.size := HK3.out.lt
  have HK5 := hid (HK3.out.below hb hz4)
  have HB5 := hid (HB4.out.trans (hb.mono HB4.out.size))
  clear hb l0
  have r0 := HK5.out.c0
  have r1 := HK5.out.c1
  have rf0 := HK5.out.fr 0
  have rf1 := HK5.out.fr 1
  go_wp2_with fail
  refine bodyPost_ret (by simp [results, Tryd.results10, go_sem, *]; try rfl) rfl ?_
  exact ⟨rfl, (HB5.out.setCell (p := ⟨w.heap.size + 1, 0, none⟩) (by simp) _).setCell (p := ⟨w.heap.size + 1, 1, none⟩) (by simp) _⟩
set_option maxHeartbeats 1000000 in
set_option maxRecDepth 100000 in
theorem iNetOf_yes (b cap n : Nat) (F T : Nat → Int) (w : World) (h1 : n ≤ cap) (hR : Rv w b n F T) (hv : plV n F T = true) (hT : TB w) :
    Calls Tryd.prog 10 #[.slice (some ⟨b, 0, none⟩) n cap] w fun e w' => e = .returned (.tuple #[.agg #[.int .i64 n, .string (netS n (novR n F T))], .bool true]) ∧ Below w.heap.size w w' := by
  have hn := (plV_iff.1 hv).1
  have ho := nov_ok hv
  have h6 := hn.2
  have HF := hid (free_on n hn.1 hn.2)
  have HE := hid (net_any n h6 (novR n F T) ho.lt)
  have HCH := hid (nov_chg hv)
  have HVA := hid (alV_iff.2 (plV_iff.1 hv).2)
  have HC1 := hid (fun (g : Nat) (w : World) (hT : TB w) (hg : Lk w g (.slice (some ⟨b, 0, none⟩) n cap)) (hR : Rv w b n F T) => changedC1_any 34 (fun _ _ => by kernel_rfl) (.pointer (some ⟨g, 0, none⟩)) n h6 (freR n) (novR n F T) ho.lt w hT fun x y hxy hy w1 hb =>
    closNo_any g b n cap F T hv x (freR n x y) y (by omega) hy w1 (hT.below hb) (hg.below hb (cell_lt hg)) (hR.below hb))
  have HKr := hid (Nk.made (w.alloc (.cells #[.slice (some ⟨b, 0, none⟩) n cap] 28)) 0 ⟨#[]⟩)
  have HB := hid (((Below.refl w.heap.size w).alloc (Nat.le_refl _) (.cells #[.slice (some ⟨b, 0, none⟩) n cap] 28)).alloc (by simp) (.cells #[.int .i64 0, .string ⟨#[]⟩] 25))
  have HLv := hid (show Lk ((w.alloc (.cells #[.slice (some ⟨b, 0, none⟩) n cap] 28)).alloc (.cells #[.int .i64 0, .string ⟨#[]⟩] 25)) w.heap.size (.slice (some ⟨b, 0, none⟩) n cap) from
    ((Below.refl (w.heap.size + 1) (w.alloc (.cells #[.slice (some ⟨b, 0, none⟩) n cap] 28))).alloc (by simp) _).cell (p := ⟨w.heap.size, 0, none⟩) (by simp) |>.trans (new_cell w _ _))
  simp only [World.size_alloc] at HKr
  have HR := hid hR
  have HT := hid hT
  clear hR hv hT ho
  generalize novR n F T = N at *
  have HS := AllLt.start w; go_enter Tryd.func10, Tryd.ntmps10
  go_wp2_with fail
  (with_reducible refine (HF.out _).mono ?_)
  rintro e w3 ⟨rfl, hb⟩
  have hz3 : w.heap.size + 1 < w3.heap.size := by have := hb.size; simp at this; omega
  have HA := hid (NB.made w3 0 fun _ _ => 0)
  have HN3 := hid (HA.out.row n (freR n))
  have HX := hid (below_setRow (((Below.refl w3.heap.size w3).alloc (Nat.le_refl _) (.cells (netV 0 fun _ _ => 0) 65))) (g := w3.heap.size) (Nat.le_refl _) (netV n (freR n)))
  have HB3 := hid (HB.out.trans (hb.mono HB.out.size))
  have HK3 := hid ((HKr.out.below hb HKr.out.lt).below HX.out hz3)
  have HL3 := hid ((HLv.out.below hb (by simp; omega)).below HX.out (by omega))
  have HB4 := hid (HB3.out.trans (HX.out.mono HB3.out.size))
  clear hb HX
  go_upto_region 2 with (first | refine al_net rfl rfl ?_ | refine st_net rfl _ _ rfl rfl rfl HA.out ?_)
  (try simp only [World.size_alloc])
  generalize (w3.alloc (.cells (netV 0 fun _ _ => 0) 65)).setRow w3.heap.size (netV n (freR n)) = w4 at *
  have HC := hid (contIv_any b cap n F T w4 (by omega) h1 (HR.out.below HB4.out))
  rw [HVA.out] at HC
  have l0 : w4.cell? ⟨w.heap.size, 0, none⟩ = _ := HL3.out
  go_wp2_with fail
  (with_reducible refine HC.out.mono ?_)
  rintro e w5 ⟨rfl, hb⟩
  have hz4 : w.heap.size + 1 < w4.heap.size := HK3.out.lt
  have HK5 := hid (HK3.out.below hb hz4)
  have HL5 := hid (HL3.out.below hb (by omega))
  have HN5 := hid (HN3.out.below' hb)
  have HB5 := hid (HB4.out.trans (hb.mono HB4.out.size))
  clear hb l0
  go_wp2_with (refine ld_net rfl _ rfl rfl HN5.out ?_)
  (with_reducible refine (HC1.out _ _ (HT.out.below HB5.out) HL5.out (HR.out.below HB5.out)).mono ?_)
  rintro e w6 ⟨rfl, hb⟩
  rw [HCH.out]
  have HK6 := hid (HK5.out.below hb HK5.out.lt)
  have HB6 := hid (HB5.out.trans (hb.mono HB5.out.size))
  clear hb
  go_wp2_with fail
  (with_reducible refine (HE.out _).mono ?_)
  rintro e w7 ⟨rfl, hb⟩
  have HK7 := hid (HK6.out.below hb HK6.out.lt)
  have HB7 := hid (HB6.out.trans (hb.mono HB6.out.size))
  clear hb
  have r0 := HK7.out.c0
  have r1 := HK7.out.c1
  have rf0 := HK7.out.fr 0
  have rf1 := HK7.out.fr 1
  go_wp2_with fail
  refine bodyPost_ret (by simp [results, Tryd.results10, go_sem, *]; try rfl) rfl ?_
  exact ⟨rfl, (HB7.out.setCell (p := ⟨w.heap.size + 1, 0, none⟩) (by simp) _).setCell (p := ⟨w.heap.size + 1, 1, none⟩) (by simp) _⟩
end Go.Proofs.YtnogdjmciekieaaDoor.C
