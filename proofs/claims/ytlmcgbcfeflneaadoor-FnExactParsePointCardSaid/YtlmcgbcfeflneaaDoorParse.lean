/- Chapter 1's texts of sets of orders: the program's, and parsing. -/
import Derived.Test.YtlmcgbcfeflneaaDoorFmt
import Derived.Test.YtlmcgbcfeflneaaDoorDrawOne
namespace Go.Proofs.YtlmcgbcfeflneaaDoor.C
open Go.RowKit
set_option linter.unusedVariables false
/-- the first set from k on, of n, whose text is s -/
def ppF (s : ByteArray) : Nat → Nat → Int × Bool
  | _, 0 => (0, false)
  | k, n + 1 => if fpt k = s then ((k : Int), true) else ppF s (k + 1) n
def pps (s : ByteArray) : Int × Bool := ppF s 0 8
theorem ppF_hit {s : ByteArray} {k n : Nat} (h : fpt k = s) : ppF s k (n + 1) = ((k : Int), true) := by simp [ppF, h]
theorem ppF_miss {s : ByteArray} {k n : Nat} (h : ¬ fpt k = s) : ppF s k (n + 1) = ppF s (k + 1) n := by simp [ppF, h]
theorem ret_two {k : IntKind} {a b : Int} {c d : Bool} (h : (a, c) = (b, d)) : Ending.returned (.tuple #[.int k a, .bool c]) = .returned (.tuple #[.int k b, .bool d]) := by
  obtain ⟨rfl, rfl⟩ := Prod.mk.injEq .. ▸ h; rfl
theorem bytes_toList (a : ByteArray) : a.toList = a.data.toList := ByteArray.toList_eq a
theorem same_true {a b : ByteArray} (h : a = b) : (a.toList == b.toList) = true := by rw [h]; simp
theorem same_false {a b : ByteArray} (h : ¬ a = b) : (a.toList == b.toList) = false := by
  rw [beq_eq_false_iff_ne]
  intro e
  rw [bytes_toList, bytes_toList] at e
  exact h (by cases a; cases b; simp_all)
theorem iFormatPoint_any (r : Int) (w : World) (hT : TO w) :
    Calls Tryd.prog 18 #[.int .i64 r] w fun e w' => e = .returned (.string (fpt r)) ∧ Below w.heap.size w w' := by
  have HT := hid hT
  clear hT
  cases h : pv r
  all_goals
    have H := hid h
    clear h
    go_enter Tryd.func18, Tryd.ntmps18
    go_wp2_with (first | (go_at_call 20; (with_reducible refine (iPointValid_any r _).mono ?_); rintro e w' ⟨rfl, rfl⟩; rw [H.out]) | (go_at_call 40; (with_reducible refine (text_any _ _ H.out HT.out).mono ?_); rintro e w' ⟨rfl, hb⟩))
    go_ret
    exact ⟨ret_str (by first | rw [fpt_off H.out] | rw [fpt_on H.out]), by first | exact Below.refl _ _ | assumption⟩
set_option maxHeartbeats 1000000 in
theorem sParsePoint_any (s : ByteArray) (w : World) :
    Calls Tryd.prog 24 #[.string s] w fun e w' => e = .returned (.tuple #[.int .i64 (pps s).1, .bool (pps s).2]) ∧ w = w' := by
  go_enter Tryd.func24, Tryd.ntmps24
  go_wp2
  go_loop [4] (fun r => ∃ k : Nat, k ≤ 8 ∧ r = .int .i64 k ∧ Hid (ppF s k (8 - k) = pps s)) (fun r => 8 - (intOf r).toNat)
  case atStart => exact ⟨0, by omega, rfl, rfl⟩
  case round =>
    obtain ⟨k, hk, rfl, H⟩ := hrel
    by_cases h8 : k < 8
    · obtain ⟨n, hn⟩ : ∃ n, 8 - k = n + 1 := ⟨7 - k, by omega⟩
      by_cases hq : fpt k = s
      · have hr : pps s = ((k : Int), true) := by rw [← H.out, hn, ppF_hit hq]
        have hb := same_true hq
        have HR := hid hr
        clear hr H hn hq
        go_wp2_with (go_at_call 19; (with_reducible refine (sFormatPoint_any _ _).mono ?_); rintro e w' ⟨rfl, rfl⟩)
        go_ret2
        exact ⟨by rw [HR.out]; rfl, rfl⟩
      · have hr : ppF s (k + 1) (8 - (k + 1)) = pps s := by rw [← H.out, hn, ppF_miss hq]; congr 1; omega
        have hb := same_false hq
        have HR := hid hr
        clear hr H hn hq
        go_wp2_with (go_at_call 19; (with_reducible refine (sFormatPoint_any _ _).mono ?_); rintro e w' ⟨rfl, rfl⟩)
        go_round
        case rel => exact ⟨k + 1, by omega, by go_num, HR⟩
        case measure => simp [intOf]; omega
    · obtain rfl : k = 8 := by omega
      go_wp2
      go_ret2
      exact ⟨by rw [← H.out]; rfl, rfl⟩
set_option maxHeartbeats 1000000 in
theorem iParsePoint_any (s : ByteArray) (w : World) (hT : TO w) :
    Calls Tryd.prog 22 #[.string s] w fun e w' => e = .returned (.tuple #[.int .i64 (pps s).1, .bool (pps s).2]) ∧ Below w.heap.size w w' := by
  have HS := St.start hT
  clear hT
  go_enter Tryd.func22, Tryd.ntmps22
  go_wp2
  go_loopw [5] (fun r wr => ∃ k : Nat, k ≤ 8 ∧ r = .int .i64 k ∧ Hid (ppF s k (8 - k) = pps s) ∧ St w wr) (fun r _ => 8 - (intOf r).toNat)
  case atStart => exact ⟨0, by omega, rfl, rfl, HS⟩
  case round =>
    obtain ⟨k, hk, rfl, H, HR1⟩ := hrel
    clear HS
    by_cases h8 : k < 8
    · obtain ⟨n, hn⟩ : ∃ n, 8 - k = n + 1 := ⟨7 - k, by omega⟩
      by_cases hq : fpt k = s
      · have hr : pps s = ((k : Int), true) := by rw [← H.out, hn, ppF_hit hq]
        have hb := same_true hq
        have HR := hid hr
        clear hr H hn hq
        go_wp2_with (go_at_call 18; (with_reducible refine (iFormatPoint_any _ _ (St.t (by assumption))).mono ?_); rintro e w' ⟨rfl, hbel⟩; have hs := St.step (by assumption) hbel; clear hbel)
        go_ret2
        exact ⟨by rw [HR.out]; rfl, St.b (by assumption)⟩
      · have hr : ppF s (k + 1) (8 - (k + 1)) = pps s := by rw [← H.out, hn, ppF_miss hq]; congr 1; omega
        have hb := same_false hq
        have HR := hid hr
        clear hr H hn hq
        go_wp2_with (go_at_call 18; (with_reducible refine (iFormatPoint_any _ _ (St.t (by assumption))).mono ?_); rintro e w' ⟨rfl, hbel⟩; have hs := St.step (by assumption) hbel; clear hbel)
        go_roundw
        case rel => exact ⟨k + 1, by omega, by go_num, HR, by assumption⟩
        case measure => simp [intOf]; omega
    · obtain rfl : k = 8 := by omega
      go_wp2
      go_ret2
      exact ⟨by rw [← H.out]; rfl, St.b (by assumption)⟩
theorem walk_FnExactFormatPoint (a0 : Int) (w : World) (w0 : (Lit.int .i64 a0).wf = true) (hT : TO w) :
    Calls Tryd.prog 7 #[.int .i64 a0] w fun e w' => e = .returned (.bool true) ∧ Below w.heap.size w w' := by
  clear w0
  have hs := same_true (Eq.refl (fpt a0))
  go_enter Tryd.func7, Tryd.ntmps7
  go_wp2_with (first | (go_at_call 19; (with_reducible refine (sFormatPoint_any _ _).mono ?_); rintro e w' ⟨rfl, rfl⟩) | (go_at_call 18; (with_reducible refine (iFormatPoint_any _ _ hT).mono ?_); rintro e w' ⟨rfl, hb⟩))
  go_ret
  exact ⟨rfl, by assumption⟩
theorem walk_FnExactParsePoint (a0 : ByteArray) (w : World) (w0 : a0.size ≤ maxLen) (hT : TO w) :
    Calls Tryd.prog 8 #[.string a0] w fun e w' => e = .returned (.bool true) ∧ Below w.heap.size w w' := by
  clear w0
  by_cases hl : a0.size ≤ 1048576
  · have hd : decide ((1048576 : Int) < (a0.size : Int)) = false := by simp; omega
    go_enter Tryd.func8, Tryd.ntmps8
    go_wp2_with (first | (go_at_call 24; (with_reducible refine (sParsePoint_any _ _).mono ?_); rintro e w' ⟨rfl, rfl⟩) | (go_at_call 22; (with_reducible refine (iParsePoint_any _ _ hT).mono ?_); rintro e w' ⟨rfl, hb⟩))
    go_ret
    exact ⟨rfl, by assumption⟩
  · have hd : decide ((1048576 : Int) < (a0.size : Int)) = true := by simp; omega
    go_enter Tryd.func8, Tryd.ntmps8
    go_wp2
    go_ret
    exact ⟨rfl, Below.refl _ _⟩
end Go.Proofs.YtlmcgbcfeflneaaDoor.C
