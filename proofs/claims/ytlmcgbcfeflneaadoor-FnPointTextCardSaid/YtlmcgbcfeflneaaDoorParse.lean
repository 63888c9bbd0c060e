/- Chapter 1's texts of sets of orders: the program's, and parsing. -/
import Derived.Test.YtlmcgbcfeflneaaDoorFmt
import Derived.Test.YtlmcgbcfeflneaaDoorDrawOne
namespace Go.Proofs.YtlmcgbcfeflneaaDoor.C
open Go.RowKit
set_option linter.unusedVariables false
/-- the first set from k on, of n, whose text is s -/
def ppF (s : ByteArray) : Nat → Nat → Int × Bool
  | _, 0 => (0, false)
  | k, n + 1 => if fpt k = s then ((k : Int), true) else ppF s (k + 1) n
def pps (s : ByteArray) : Int × Bool := ppF s 0 8
theorem ppF_hit {s : ByteArray} {k n : Nat} (h : fpt k = s) : ppF s k (n + 1) = ((k : Int), true) := by simp [ppF, h]
theorem ppF_miss {s : ByteArray} {k n : Nat} (h : ¬ fpt k = s) : ppF s k (n + 1) = ppF s (k + 1) n := by simp [ppF, h]
theorem ret_two {k : IntKind} {a b : Int} {c d : Bool} (h : (a, c) = (b, d)) : Ending.returned (.tuple #[.int k a, .bool c]) = .returned (.tuple #[.int k b, .bool d]) := by
  obtain ⟨rfl, rfl⟩ := Prod.mk.injEq .. ▸ h; rfl
theorem bytes_toList (a : ByteArray) : a.toList = a.data.toList := ByteArray.toList_eq a
theorem same_true {a b : ByteArray} (h : a = b) : (a.toList == b.toList) = true := by rw [h]; simp
theorem same_false {a b : ByteArray} (h : ¬ a = b) : (a.toList == b.toList) = false := by
  rw [beq_eq_false_iff_ne]
  intro e
  rw [bytes_toList, bytes_toList] at e
  exact h (by cases a; cases b; simp_all)
theorem iFormatPoint_any (r : Int) (w : World) (hT : TO w) :
    Calls Tryd.prog 18 #[.int .i64 r] w fun e w' => e = .returned (.string (fpt r)) ∧ Below w.heap.size w w' := by
  have HT := hid hT
  clear hT
  cases h : pv r
  all_goals
    have H := hid h
    clear h
    go_enter Tryd.func18, Tryd.ntmps18
    go_wp2_with (first | (go_at_call 20; (with_reducible refine (iPointValid_any r _).mono ?_); rintro e w' ⟨rfl, rfl⟩; rw [H.out]) | (go_at_call 40; (with_reducible refine (text_any _ _ H.out HT.out).mono ?_); rintro e w' ⟨rfl, hb⟩))
    go_ret
    exact ⟨ret_str (by first | rw [fpt_off H.out] | rw [fpt_on H.out]), by first | exact Below.refl _ _ | assumption⟩
set_option maxHeartbeats 1000000 in
theorem sParsePoint_any (s : ByteArray) (w : World) :
    Calls Tryd.prog 24 #[.string s] w fun e w' => e = .returned (.tuple #[.int .i64 (pps s).1, .bool (pps s).2]) ∧ w = w' := by
  go_enter Tryd.func24, Tryd.ntmps24
  go_wp2
  go_loop [4] (fun r => ∃ k : Nat, k ≤ 8 ∧ r = .int .i64 k ∧ Hid (ppF s k (8 - k) = pps s)) (fun r => 8 - (intOf r).toNat)
  case atStart => exact ⟨0, by omega, rfl, rfl⟩
  case round =>
    obtain ⟨k, hk, rfl, H⟩ := hrel
    by_cases h8 : k < 8
    · obtain ⟨n, hn⟩ : ∃ n, 8 - k = n + 1 := ⟨7 - k, by omega⟩
      by_cases hq : fpt k = s
      · have hr : pps s = ((k : Int), true) := by rw [← H.out, hn, ppF_hit hq]
        have hb := same_true hq
        have HR := hid hr
        clear hr H hn hq
        go_wp2_with (go_at_call 19; (with_reducible refine (sFormatPoint_any _ _).mono ?_); rintro e w' ⟨rfl, rfl⟩)
        go_ret2
        exact ⟨by rw [HR.out]; rfl, rfl⟩
      · have hr : ppF s (k + 1) (8 - (k + 1)) = pps s := by rw [← H.out, hn, ppF_miss hq]; congr 1; omega
        have hb := same_false hq
        have HR := hid hr
        clear hr H hn hq
        go_wp2_with (go_at_call 19; (with_reducible refine (sFormatPoint_any _ _).mono ?_); rintro e w' ⟨rfl, rfl⟩)
        go_round
        case rel => exact ⟨k + 1, by omega, by go_num, HR⟩
        case measure => simp [intOf]; omega
    · obtain rfl : k = 8 := by omega
      go_wp2
      go_ret2
      exact ⟨by rw [← H.out]; rfl, rfl⟩
set_option maxHeartbeats 1000000 in
theorem iParsePoint_any (s : ByteArray) (w : World) (hT : TO w) :
    Calls Tryd.prog 22 #[.string s] w fun e w' => e = .returned (.tuple #[.int .i64 (pps s).1, .bool (pps s).2]) ∧ Below w.heap.size w w' := by
  have HS := St.start hT
  clear hT
  go_enter Tryd.func22, Tryd.ntmps22
  go_wp2
  go_loopw [5] (fun r wr => ∃ k : Nat, k ≤ 8 ∧ r = .int .i64 k ∧ Hid (ppF s k (8 - k) = pps s) ∧ St w wr) (fun r _ => 8 - (intOf r).toNat)
  case atStart => exact ⟨0, by omega, rfl, rfl, HS⟩
  case round =>
    obtain ⟨k, hk, rfl, H, HR1⟩ := hrel
    clear HS
    by_cases h8 : k < 8
    · obtain ⟨n, hn⟩ : ∃ n, 8 - k = n + 1 := ⟨7 - k, by omega⟩
      by_cases hq : fpt k = s
      · have hr : pps s = ((k : Int), true) := by rw [← H.out, hn, ppF_hit hq]
        have hb := same_true hq
        have HR := hid hr
        clear hr H hn hq
        go_wp2_with (go_at_call 18; (with_reducible refine (iFormatPoint_any _ _ (St.t (by assumption))).mono ?_); rintro e w' ⟨rfl, hbel⟩; have hs := St.step (by assumption) hbel; clear hbel)
        go_ret2
        exact ⟨by rw [HR.out]; rfl, St.b (by assumption)⟩
      · have hr : ppF s (k + 1) (8 - (k + 1)) = pps s := by rw [← H.out, hn, ppF_miss hq]; congr 1; omega
        have hb := same_false hq
        have HR := hid hr
        clear hr H hn hq
        go_wp2_with (go_at_call 18; (with_reducible refine (iFormatPoint_any _ _ (St.t (by assumption))).mono ?_); rintro e w' ⟨rfl, hbel⟩; have hs := St.step (by assumption) hbel; clear hbel)
        go_roundw
        case rel => exact ⟨k + 1, by omega, by go_num, HR, by assumption⟩
        case measure => simp [intOf]; omega
    · obtain rfl : k = 8 := by omega
      go_wp2
      go_ret2
      exact ⟨by rw [← H.out]; rfl, St.b (by assumption)⟩
theorem walk_FnExactFormatPoint (a0 : Int) (w : World) (w0 : (Lit.int .i64 a0).wf = true) (hT : TO w) :
    Calls Tryd.prog 7 #[.int .i64 a0] w fun e w' => e = .returned (.bool true) ∧ Below w.heap.size w w' := by
  clear w0
  have hs := same_true (Eq.refl (fpt a0))
  go_enter Tryd.func7, Tryd.ntmps7
  go_wp2_with (first | (go_at_call 19; (with_reducible refine (sFormatPoint_any _ _).mono ?_); rintro e w' ⟨rfl, rfl⟩) | (go_at_call 18; (with_reducible refine (iFormatPoint_any _ _ hT).mono ?_); rintro e w' ⟨rfl, hb⟩))
  go_ret
  exact ⟨rfl, by assumption⟩
theorem walk_FnExactParsePoint (a0 : ByteArray) (w : World) (w0 : a0.size ≤ maxLen) (hT : TO w) :
    Calls Tryd.prog 8 #[.string a0] w fun e w' => e = .returned (.bool true) ∧ Below w.heap.size w w' := by
  clear w0
  by_cases hl : a0.size ≤ 1048576
  · have hd : decide ((1048576 : Int) < (a0.size : Int)) = false := by simp; omega
    go_enter Tryd.func8, Tryd.ntmps8
    go_wp2_with (first | (go_at_call 24; (with_reducible refine (sParsePoint_any _ _).mono ?_); rintro e w' ⟨rfl, rfl⟩) | (go_at_call 22; (with_reducible refine (iParsePoint_any _ _ hT).mono ?_); rintro e w' ⟨rfl, hb⟩))
    go_ret
    exact ⟨rfl, by assumption⟩
  · have hd : decide ((1048576 : Int) < (a0.size : Int)) = true := by simp; omega
    go_enter Tryd.func8, Tryd.ntmps8
    go_wp2
    go_ret
    exact ⟨rfl, Below.refl _ _⟩
theorem fpt_size {k : Nat} (h : k < 8) : (fpt (k : Int)).size ≤ 3 := by
  rcases pv_cases (pv_nat h) with e | e | e | e | e | e | e | e <;> rw [e] <;> decide +kernel
theorem DrawParsePoint_any (a : Option Addr) (len cap : Nat) (zs : List Int) (w : World) (h : IsRow .u8 w a len cap zs) :
    Calls Tryd.prog 23 #[.slice a len cap] w (OutS (fun _ => True) w) := by
  go_enter Tryd.func23, Tryd.ntmps23
  go_wp2_with fail
  refine (l14Open_any _ _ _ _ _ h).mono ?_
  rintro e w1 ⟨rfl, hR, hb⟩
  go_wp2_with fail
  refine (pick_any _ _ 0 _ _ hR (by omega) (by omega) (by omega)).mono ?_
  rintro e w2 ⟨k, hk, rfl, hR2, hW⟩
  go_wp2_with fail
  refine (sFormatPoint_any _ _).mono ?_
  rintro e w3 ⟨rfl, rfl⟩
  go_wp2_with fail
  refine (pick_any _ _ (0 + 1) _ _ hR2 (by omega) (by omega) (by omega)).mono ?_
  rintro e w4 ⟨j, hj, rfl, hR3, hW3⟩
  by_cases hj0 : j = 0
  · have HF : Hid (∀ e w', e = .returned (.string (fpt k)) → w4 = w' → OutS (fun _ => True) w e w') := hid fun e w' c1 c2 => OutS.of trivial hb (hW.trans hW3) c1 c2
    have hj1 : ((j : Int) == 0) = true := by simp; omega
    clear hR hb hR2 hW h hR3 hW3
    go_wp2
    go_ret
    exact HF.out _ _ rfl rfl
  · have hj1 : ((j : Int) == 0) = false := by simp; omega
    go_wp2_with fail
    refine (of_new _ _ (0 + 1 + 1) _ (fun v => v.size ≤ 1) [⟨#[]⟩, ⟨#[60]⟩, ⟨#[62]⟩, ⟨#[45]⟩, ⟨#[61]⟩] 5 _ _ hR3 (by simp) rfl (by omega) (by omega) (by omega) (by decide)).mono ?_
    rintro e w5 ⟨v, hv, rfl, hR4, hW4⟩
    have HF : Hid (∀ e w', e = .returned (.string (fpt k ++ v)) → w5 = w' → OutS (fun _ => True) w e w') := hid fun e w' c1 c2 => OutS.of trivial hb (hW.trans (hW3.trans hW4)) c1 c2
    have hsz := fpt_size (k := k) (by omega)
    clear hR hb hR2 hW h hR3 hW3 hR4 hW4
    go_wp2
    go_ret
    exact HF.out _ _ rfl rfl
theorem pps_hit {s : ByteArray} (h : (pps s).2 = true) : fpt (pps s).1 = s := by
  have key : ∀ n k, (ppF s k n).2 = true → fpt (ppF s k n).1 = s := by
    intro n
    induction n with
    | zero => intro k h; simp [ppF] at h
    | succ n ih =>
      intro k h
      by_cases hq : fpt k = s
      · rw [ppF_hit hq]; exact hq
      · rw [ppF_miss hq] at h ⊢
        exact ih _ h
  exact key 8 0 h
theorem ptext {v : Int} (h : pv v = true) : (fpt v).toList.isEmpty = false ∧ (pps (fpt v)).1 = v ∧ (pps (fpt v)).2 = true ∧ (((fpt v).size : Int) != max (cnt v) 1) = false := by
  rcases pv_cases h with rfl | rfl | rfl | rfl | rfl | rfl | rfl | rfl <;> decide +kernel
set_option maxHeartbeats 4000000 in
theorem walk_FnPointText (a0 : Option Addr) (len0 cap0 : Nat) (z0 : List Int) (a1 : Option Addr) (len1 cap1 : Nat) (z1 : List Int) (w : World) (w0 : IsRow .u8 w a0 len0 cap0 z0) (w1 : IsRow .u8 w a1 len1 cap1 z1) (hT : TO w) :
    Calls Tryd.prog 4 #[.slice a0 len0 cap0, .slice a1 len1 cap1] w fun e w' => e = .returned (.bool true) ∧ Below w.heap.size w w' := by
  have HS := St.start hT
  clear hT
  by_cases hl : len0 ≤ 1048576
  · have hd : decide ((1048576 : Int) < (len0 : Int)) = false := by simp; omega
    by_cases hl1 : len1 ≤ 1048576
    · have hd1 : decide ((1048576 : Int) < (len1 : Int)) = false := by simp; omega
      go_enter Tryd.func4, Tryd.ntmps4
      go_wp2_with fail
      refine (DrawFormatPoint_any _ _ _ _ _ w0).mono ?_
      rintro e W1 ⟨v, hv, rfl, hb⟩
      have HS1 := HS.step hb
      have w1' := w1.below hb
      clear hb w0 w1 HS hv
      cases hp : pv v
      case' false =>
        have e2 : (fpt v).toList.isEmpty = true := by rw [fpt_off hp]; decide +kernel
        have hs := same_true (Eq.refl (fpt v))
        go_wp2_with (first | (go_at_call 18; (with_reducible refine (iFormatPoint_any _ _ (St.t (by assumption))).mono ?_); rintro e w' ⟨rfl, hb⟩; have hs := St.step (by assumption) hb; have w1' := w1'.below hb; clear hb) | (go_at_call 19; (with_reducible refine (sFormatPoint_any _ _).mono ?_); rintro e w' ⟨rfl, rfl⟩) | (go_at_call 20; (with_reducible refine (iPointValid_any _ _).mono ?_); rintro e w' ⟨rfl, rfl⟩) | (go_at_call 21; (with_reducible refine (sPointValid_any _ _).mono ?_); rintro e w' ⟨rfl, rfl⟩) | (go_at_call 16; (with_reducible refine (iCountOrders_any _ _).mono ?_); rintro e w' ⟨rfl, rfl⟩) | (go_at_call 24; (with_reducible refine (sParsePoint_any _ _).mono ?_); rintro e w' ⟨rfl, rfl⟩) | (go_at_call 22; (with_reducible refine (iParsePoint_any _ _ (St.t (by assumption))).mono ?_); rintro e w' ⟨rfl, hb⟩; have hs := St.step (by assumption) hb; have w1' := w1'.below hb; clear hb))
      case' true =>
        have q1 := ptext hp
        obtain ⟨e2, e3, e4, e5⟩ := q1
        have hs := same_true (Eq.refl (fpt v))
        go_wp2_with (first | (go_at_call 18; (with_reducible refine (iFormatPoint_any _ _ (St.t (by assumption))).mono ?_); rintro e w' ⟨rfl, hb⟩; have hs := St.step (by assumption) hb; have w1' := w1'.below hb; clear hb) | (go_at_call 19; (with_reducible refine (sFormatPoint_any _ _).mono ?_); rintro e w' ⟨rfl, rfl⟩) | (go_at_call 20; (with_reducible refine (iPointValid_any _ _).mono ?_); rintro e w' ⟨rfl, rfl⟩) | (go_at_call 21; (with_reducible refine (sPointValid_any _ _).mono ?_); rintro e w' ⟨rfl, rfl⟩) | (go_at_call 16; (with_reducible refine (iCountOrders_any _ _).mono ?_); rintro e w' ⟨rfl, rfl⟩) | (go_at_call 24; (with_reducible refine (sParsePoint_any _ _).mono ?_); rintro e w' ⟨rfl, rfl⟩) | (go_at_call 22; (with_reducible refine (iParsePoint_any _ _ (St.t (by assumption))).mono ?_); rintro e w' ⟨rfl, hb⟩; have hs := St.step (by assumption) hb; have w1' := w1'.below hb; clear hb))
      all_goals
        refine (DrawParsePoint_any _ _ _ _ _ w1').mono ?_
        rintro e W2 ⟨t, _, rfl, hb⟩
        have hS2 := St.step (by assumption) hb
        clear hb
        cases hp2 : (pps t).2
        · go_wp2_with (first | (go_at_call 18; (with_reducible refine (iFormatPoint_any _ _ (St.t (by assumption))).mono ?_); rintro e w' ⟨rfl, hb⟩; have hs := St.step (by assumption) hb; clear hb) | (go_at_call 19; (with_reducible refine (sFormatPoint_any _ _).mono ?_); rintro e w' ⟨rfl, rfl⟩) | (go_at_call 20; (with_reducible refine (iPointValid_any _ _).mono ?_); rintro e w' ⟨rfl, rfl⟩) | (go_at_call 21; (with_reducible refine (sPointValid_any _ _).mono ?_); rintro e w' ⟨rfl, rfl⟩) | (go_at_call 16; (with_reducible refine (iCountOrders_any _ _).mono ?_); rintro e w' ⟨rfl, rfl⟩) | (go_at_call 24; (with_reducible refine (sParsePoint_any _ _).mono ?_); rintro e w' ⟨rfl, rfl⟩) | (go_at_call 22; (with_reducible refine (iParsePoint_any _ _ (St.t (by assumption))).mono ?_); rintro e w' ⟨rfl, hb⟩; have hs := St.step (by assumption) hb; clear hb))
          go_ret
          exact ⟨rfl, St.b (by assumption)⟩
        · have hs2 := same_true (pps_hit hp2)
          go_wp2_with (first | (go_at_call 18; (with_reducible refine (iFormatPoint_any _ _ (St.t (by assumption))).mono ?_); rintro e w' ⟨rfl, hb⟩; have hs := St.step (by assumption) hb; clear hb) | (go_at_call 19; (with_reducible refine (sFormatPoint_any _ _).mono ?_); rintro e w' ⟨rfl, rfl⟩) | (go_at_call 20; (with_reducible refine (iPointValid_any _ _).mono ?_); rintro e w' ⟨rfl, rfl⟩) | (go_at_call 21; (with_reducible refine (sPointValid_any _ _).mono ?_); rintro e w' ⟨rfl, rfl⟩) | (go_at_call 16; (with_reducible refine (iCountOrders_any _ _).mono ?_); rintro e w' ⟨rfl, rfl⟩) | (go_at_call 24; (with_reducible refine (sParsePoint_any _ _).mono ?_); rintro e w' ⟨rfl, rfl⟩) | (go_at_call 22; (with_reducible refine (iParsePoint_any _ _ (St.t (by assumption))).mono ?_); rintro e w' ⟨rfl, hb⟩; have hs := St.step (by assumption) hb; clear hb))
          go_ret
          exact ⟨rfl, St.b (by assumption)⟩
    · have hd1 : decide ((1048576 : Int) < (len1 : Int)) = true := by simp; omega
      go_enter Tryd.func4, Tryd.ntmps4
      go_wp2
      go_ret
      exact ⟨rfl, Below.refl _ _⟩
  · have hd : decide ((1048576 : Int) < (len0 : Int)) = true := by simp; omega
    go_enter Tryd.func4, Tryd.ntmps4
    go_wp2
    go_ret
    exact ⟨rfl, Below.refl _ _⟩
end Go.Proofs.YtlmcgbcfeflneaaDoor.C
