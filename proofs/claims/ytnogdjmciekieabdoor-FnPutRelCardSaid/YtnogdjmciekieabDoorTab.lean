/- The model's words over chapter 2's letters. Walks over chapter 2's table of basic relations, for the program; the model's words for the same. -/
import Derived.Test.YtnogdjmciekieabDoorTwo
import Derived.Deep.QuietTactic
import Derived.BigQuiet
namespace Go.Proofs.YtnogdjmciekieabDoor.C
section
open Go.RowKit
set_option linter.unusedVariables false
set_option linter.unusedSimpArgs false
theorem pl_one (c : UInt8) (k : Nat) : pl ⟨#[c]⟩ k = (ltb k == c) := by
  rw [Bool.eq_iff_iff]; simp [pl, ltr]
set_option maxHeartbeats 2000000 in
/-- The first place of a byte among the letters. -/
theorem find_letters (c : UInt8) (w : World) :
    Calls Tryd.prog 110 #[.string ⟨#[98, 109, 111, 115, 100, 102, 101, 70, 68, 83, 79, 77, 66]⟩, .int .u8 c.toNat] w fun e w' => e = .returned (.int .i64 (lixI ⟨#[c]⟩)) ∧ w = w' := by
  have HS := AllLt.start w; go_enter Tryd.func110, Tryd.ntmps110
  go_wp2
  go_loop [5] (fun v => ∃ k : Nat, k ≤ 13 ∧ v = .int .i64 k ∧ Hid (firstF (pl ⟨#[c]⟩) k (13 - k) = lix ⟨#[c]⟩)) (fun v => 13 - (intOf v).toNat)
  case atStart => exact ⟨0, by omega, rfl, hid rfl⟩
  case round =>
    obtain ⟨k, hk, rfl, HF⟩ := hrel
    clear HS
    by_cases h13 : k < 13
    · obtain ⟨n, hn⟩ : ∃ n, 13 - k = n + 1 := ⟨12 - k, by omega⟩
      have hel : ((⟨#[98, 109, 111, 115, 100, 102, 101, 70, 68, 83, 79, 77, 66]⟩ : ByteArray)[k]'(by exact h13)) = ltb k := by
        rcases nat13 h13 with rfl | rfl | rfl | rfl | rfl | rfl | rfl | rfl | rfl | rfl | rfl | rfl | rfl <;> rfl
      have hdi : decide ((k : Int) < 13) = true := by simp; omega
      cases hq : ltb k == c
      · have HF2 := hid (show firstF (pl ⟨#[c]⟩) (k + 1) (13 - (k + 1)) = lix ⟨#[c]⟩ by rw [← HF.out, hn, firstF_miss (by rw [pl_one]; exact hq)]; congr 1; omega)
        have hq4 : ((((⟨#[98, 109, 111, 115, 100, 102, 101, 70, 68, 83, 79, 77, 66]⟩ : ByteArray)[k]'(by exact h13)).toNat : Int) == (c.toNat : Int)) = false := by
          rw [hel, beq_eq_false_iff_ne]
          intro e
          have e2 : ltb k = c := UInt8.toNat_inj.1 (by omega)
          simp [e2] at hq
        clear hq hn HF hel
        go_wp2
        go_round
        case rel => exact ⟨k + 1, by omega, by go_num, HF2⟩
        case measure => simp [intOf]; omega
      · have e2 : ltb k = c := by simpa using hq
        have HF2 := hid (lixI_hit (show lix ⟨#[c]⟩ = ((k : Int), true) by rw [← HF.out, hn, firstF_hit (by rw [pl_one]; exact hq)]))
        have hq4 : ((((⟨#[98, 109, 111, 115, 100, 102, 101, 70, 68, 83, 79, 77, 66]⟩ : ByteArray)[k]'(by exact h13)).toNat : Int) == (c.toNat : Int)) = true := by
          rw [hel, e2]; simp
        clear hq hn HF hel e2
        go_wp2
        go_ret
        exact ⟨by rw [HF2.out]; rfl, rfl⟩
    · obtain rfl : k = 13 := by omega
      have HF2 := hid (lixI_miss (show lix ⟨#[c]⟩ = (0, false) by rw [← HF.out]; rfl))
      go_wp2
      go_ret
      exact ⟨by rw [HF2.out]; rfl, rfl⟩
theorem bat_out {f t : Int} (h : btw 0 f 4 = false ∨ btw 0 t 4 = false) : batI f t = -1 := by
  rcases bat_cases f t with ⟨k, hk, h1, h2, _⟩ | ⟨_, hr⟩
  · exfalso
    rcases nat13 hk with rfl | rfl | rfl | rfl | rfl | rfl | rfl | rfl | rfl | rfl | rfl | rfl | rfl <;> (subst h1 h2; revert h; decide)
  · exact batI_miss hr
theorem btw4 {f : Int} (h : btw 0 f 4 = true) : f = 0 ∨ f = 1 ∨ f = 2 ∨ f = 3 ∨ f = 4 := by
  simp [btw] at h; omega
set_option maxHeartbeats 1000000 in
theorem l2Basic_any (f t : Int) (w : World) :
    Calls Tryd.prog 135 #[.int .i64 f, .int .i64 t] w fun e w' => e = .returned (.int .i64 (batI f t)) ∧ w = w' := by
  cases h1 : btw 0 f 4
  · have H1 := hid h1
    have HR := hid (bat_out (t := t) (.inl h1))
    clear h1
    have HS := AllLt.start w; go_enter Tryd.func135, Tryd.ntmps135
    go_wp2_with (first | (go_at_call 61; (with_reducible refine (l1In_any f 0 4 _).mono ?_); rintro e w' ⟨rfl, rfl⟩; rw [H1.out]))
    go_ret
    exact ⟨ret_int HR.out.symm, rfl⟩
  · cases h2 : btw 0 t 4
    · have H1 := hid h1
      have H2 := hid h2
      have HR := hid (bat_out (f := f) (.inr h2))
      clear h1 h2
      by_cases e : f = t
      · exfalso
        subst e
        exact Bool.noConfusion (H1.out.symm.trans H2.out)
      · have HS := AllLt.start w; go_enter Tryd.func135, Tryd.ntmps135
        go_wp2_with (first | (go_at_call 61; (with_reducible refine (l1In_any f 0 4 _).mono ?_); rintro e w' ⟨rfl, rfl⟩; rw [H1.out]) | (go_at_call 61; (with_reducible refine (l1In_any t 0 4 _).mono ?_); rintro e w' ⟨rfl, rfl⟩; rw [H2.out]))
        go_ret
        exact ⟨ret_int HR.out.symm, rfl⟩
    · have H1 := hid h1
      have H2 := hid h2
      rcases btw4 h1 with rfl | rfl | rfl | rfl | rfl <;> rcases btw4 h2 with rfl | rfl | rfl | rfl | rfl
      all_goals
        clear h1 h2
        have HS := AllLt.start w; go_enter Tryd.func135, Tryd.ntmps135
        go_wp2_with (first | (go_at_call 61; (with_reducible refine (l1In_any _ _ _ _).mono ?_); rintro e w' ⟨rfl, rfl⟩; simp only [H1.out, H2.out]))
        go_ret
        exact ⟨ret_int (by decide +kernel), rfl⟩
theorem ret_ii {k : IntKind} {a b a' b' : Int} (h0 : a = a') (h1 : b = b') : Ending.returned (.tuple #[.int k a, .int k b]) = .returned (.tuple #[.int k a', .int k b']) := by rw [h0, h1]
end
section
open Go.RowKit
set_option linter.unusedVariables false
set_option linter.unusedSimpArgs false

theorem same_t {a b : ByteArray} (h : a = b) : (a.toList == b.toList) = true := by rw [h]; simp
theorem same_f {a b : ByteArray} (h : ¬ a = b) : (a.toList == b.toList) = false := by
  rw [beq_eq_false_iff_ne]
  intro e
  rw [ByteArray.toList_eq, ByteArray.toList_eq] at e
  exact h (ByteArray.ext (Array.ext' e))
/-- The table of the basic relations lies as the program's text lays it. -/
def TBc : Array Value := #[.string ⟨#[98]⟩, .int .i64 0, .int .i64 0, .string ⟨#[109]⟩, .int .i64 0, .int .i64 1, .string ⟨#[111]⟩, .int .i64 0, .int .i64 2, .string ⟨#[115]⟩, .int .i64 1, .int .i64 2, .string ⟨#[100]⟩, .int .i64 2, .int .i64 2, .string ⟨#[102]⟩, .int .i64 2, .int .i64 3, .string ⟨#[101]⟩, .int .i64 1, .int .i64 3,
  .string ⟨#[70]⟩, .int .i64 0, .int .i64 3, .string ⟨#[68]⟩, .int .i64 0, .int .i64 4, .string ⟨#[83]⟩, .int .i64 1, .int .i64 4, .string ⟨#[79]⟩, .int .i64 2, .int .i64 4, .string ⟨#[77]⟩, .int .i64 3, .int .i64 4, .string ⟨#[66]⟩, .int .i64 4, .int .i64 4]
def TB (w : World) : Prop := Tb w 1 TBc
theorem TB.below {w w' : World} (h : TB w) (hb : Below w.heap.size w w') : TB w' := Tb.below h hb (Tb.lt h)
theorem TB.drewN {w : World} (h : TB w) (n : Nat) : TB (w.drewN n) := h
theorem tb_l {w : World} (h : TB w) : ∀ k : Nat, k < 13 → w.cell? ⟨1, 3 * k, none⟩ = some (.string (ltr k)) := fun k hk => by
  rcases nat13 hk with rfl | rfl | rfl | rfl | rfl | rfl | rfl | rfl | rfl | rfl | rfl | rfl | rfl <;> exact Tb.cell h _ _ rfl
theorem tb_f {w : World} (h : TB w) : ∀ k : Nat, k < 13 → w.cell? ⟨1, 3 * k + 1, none⟩ = some (.int .i64 (zf k)) := fun k hk => by
  rcases nat13 hk with rfl | rfl | rfl | rfl | rfl | rfl | rfl | rfl | rfl | rfl | rfl | rfl | rfl <;> exact Tb.cell h _ _ rfl
theorem tb_t {w : World} (h : TB w) : ∀ k : Nat, k < 13 → w.cell? ⟨1, 3 * k + 2, none⟩ = some (.int .i64 (zt k)) := fun k hk => by
  rcases nat13 hk with rfl | rfl | rfl | rfl | rfl | rfl | rfl | rfl | rfl | rfl | rfl | rfl | rfl <;> exact Tb.cell h _ _ rfl
theorem letter_any (k : Nat) (hk : k < 13) (w : World) (hT : TB w) :
    Calls Tryd.prog 84 #[.int .i64 k] w fun e w' => e = .returned (.string (ltr k)) ∧ w = w' := by
  have hl := tb_l hT k hk
  clear hT
  rcases nat13 hk with rfl | rfl | rfl | rfl | rfl | rfl | rfl | rfl | rfl | rfl | rfl | rfl | rfl
  all_goals
    clear hk
    have HS := AllLt.start w; go_enter Tryd.func84, Tryd.ntmps84
    go_wp2
    go_ret
    exact ⟨rfl, rfl⟩
theorem zones_any (k : Nat) (hk : k < 13) (w : World) (hT : TB w) :
    Calls Tryd.prog 117 #[.int .i64 k] w fun e w' => e = .returned (.tuple #[.int .i64 (zf k), .int .i64 (zt k)]) ∧ ∃ n, w' = w.drewN n := by
  have hf := tb_f hT k hk
  have ht := tb_t hT k hk
  clear hT
  rcases nat13 hk with rfl | rfl | rfl | rfl | rfl | rfl | rfl | rfl | rfl | rfl | rfl | rfl | rfl
  all_goals
    clear hk
    have HS := AllLt.start w; go_enter Tryd.func117, Tryd.ntmps117
    go_wp2
    go_quiet (fail)
    go_wp2
    go_ret2
    exact ⟨rfl, _, rfl⟩
theorem fletter_any (k : Nat) (hk : k < 13) (c : Nat) (s : ByteArray) (w : World) (hc : w.cell? ⟨c, 0, none⟩ = some (.string s)) (hT : TB w) :
    Calls Tryd.prog 106 #[.int .i64 k, .pointer (some ⟨c, 0, none⟩)] w fun e w' => e = .returned (.bool (pl s k)) ∧ Below w.heap.size w w' := by
  have HT := hid hT
  clear hT
  by_cases h : ltr k = s
  · have hb := same_t h
    have HP := hid (show pl s k = true from decide_eq_true h)
    clear h
    have HS := AllLt.start w; go_enter Tryd.func106, Tryd.ntmps106
    go_wp2
    go_quiet ((go_at_call 84; exact Calls.quiet_of_same ((letter_any k hk _ (by exact HT.out.drewN _)).mono fun _ _ ⟨a, b⟩ => ⟨a, b.symm⟩)))
    go_wp2
    go_ret
    exact ⟨ret_bool HP.out.symm, by exact below_drewN _ _ _⟩
  · have hb := same_f h
    have HP := hid (show pl s k = false from decide_eq_false h)
    clear h
    have HS := AllLt.start w; go_enter Tryd.func106, Tryd.ntmps106
    go_wp2
    go_quiet ((go_at_call 84; exact Calls.quiet_of_same ((letter_any k hk _ (by exact HT.out.drewN _)).mono fun _ _ ⟨a, b⟩ => ⟨a, b.symm⟩)))
    go_wp2
    go_ret
    exact ⟨ret_bool HP.out.symm, by exact below_drewN _ _ _⟩
set_option maxHeartbeats 1000000 in
theorem where_letter (c : Nat) (s : ByteArray) (w : World) (hc : w.cell? ⟨c, 0, none⟩ = some (.string s)) (hT : TB w) :
    Calls Tryd.prog 105 #[.func (.func 106) #[] #[.pointer (some ⟨c, 0, none⟩)]] w fun e w' => e = .returned (.tuple #[.int .i64 (firstF (pl s) 0 13).1, .bool (firstF (pl s) 0 13).2]) ∧ Below w.heap.size w w' := by
  have HT := hid hT
  clear hT
  have HC := hid hc
  have hlt : c < w.heap.size := cell_lt' hc
  clear hc
  have HS := AllLt.start w; go_enter Tryd.func105, Tryd.ntmps105
  go_wp2
  go_loopw [5] (fun v wr => ∃ k : Nat, k ≤ 13 ∧ v = .int .i64 k ∧ Hid (firstF (pl s) k (13 - k) = firstF (pl s) 0 13) ∧ Hid (Below w.heap.size w wr)) (fun v _ => 13 - (intOf v).toNat)
  case atStart => exact ⟨0, by omega, rfl, hid rfl, hid (Below.refl _ _)⟩
  case round =>
    obtain ⟨k, hk, rfl, HF, HB⟩ := hrel
    clear HS
    by_cases h13 : k < 13
    · obtain ⟨n, hn⟩ : ∃ n, 13 - k = n + 1 := ⟨12 - k, by omega⟩
      have hdi : decide ((k : Int) < 13) = true := by simp; omega
      cases hq : (pl s) k
      · have HF2 := hid (show firstF (pl s) (k + 1) (13 - (k + 1)) = firstF (pl s) 0 13 by rw [← HF.out, hn, firstF_miss hq]; congr 1; omega)
        have HQ := hid hq
        clear hn hq HF
        go_wp2_with (go_at_call 106; (with_reducible refine (fletter_any k h13 c s _ (by rw [HB.out.cell (p := ⟨c, 0, none⟩) hlt]; exact HC.out) (HT.out.below HB.out)).mono ?_); rintro e w' ⟨rfl, hb⟩; rw [HQ.out])
        go_roundw
        case rel => exact ⟨k + 1, by omega, by go_num, HF2, hid (HB.out.trans (hb.mono HB.out.size))⟩
        case measure => simp [intOf]; omega
      · have HF2 := hid (show firstF (pl s) 0 13 = ((k : Int), true) by rw [← HF.out, hn, firstF_hit hq])
        have HQ := hid hq
        clear hn hq HF
        go_wp2_with (go_at_call 106; (with_reducible refine (fletter_any k h13 c s _ (by rw [HB.out.cell (p := ⟨c, 0, none⟩) hlt]; exact HC.out) (HT.out.below HB.out)).mono ?_); rintro e w' ⟨rfl, hb⟩; rw [HQ.out])
        go_ret2
        exact ⟨by rw [HF2.out]; rfl, HB.out.trans (hb.mono HB.out.size)⟩
    · obtain rfl : k = 13 := by omega
      have hdi : decide (((13 : Nat) : Int) < 13) = false := by simp
      go_wp2
      go_ret2
      exact ⟨by rw [← HF.out]; rfl, HB.out⟩
theorem basicOfLetter_any (s : ByteArray) (w : World) (hT : TB w) :
    Calls Tryd.prog 73 #[.string s] w fun e w' => e = .returned (.tuple #[.int .i64 (lix s).1, .bool (lix s).2]) ∧ Below w.heap.size w w' := by
  have HT := hid (hT.below ((Below.refl w.heap.size w).alloc (Nat.le_refl _) (.cells #[.string s] 9)))
  clear hT
  have HS := AllLt.start w; go_enter Tryd.func73, Tryd.ntmps73
  go_wp2_with fail
  (with_reducible refine (where_letter _ s _ (new_cell _ _ _) HT.out).mono ?_)
  rintro e w' ⟨rfl, hb⟩
  have HB := hid (((Below.refl w.heap.size w).alloc (Nat.le_refl _) _).trans (hb.mono (by simp)))
  clear hb
  go_wp2
  go_ret2
  exact ⟨rfl, HB.out⟩
theorem fzones_any (k : Nat) (hk : k < 13) (c d : Nat) (f t : Int) (w : World) (hc : w.cell? ⟨c, 0, none⟩ = some (.int .i64 f)) (hd : w.cell? ⟨d, 0, none⟩ = some (.int .i64 t)) (hT : TB w) :
    Calls Tryd.prog 116 #[.int .i64 k, .pointer (some ⟨c, 0, none⟩), .pointer (some ⟨d, 0, none⟩)] w fun e w' => e = .returned (.bool (pz f t k)) ∧ Below w.heap.size w w' := by
  have HT := hid hT
  clear hT
  have HZ := zones_any k hk
  have HP : Hid (pz f t k = ((zf k == f) && (zt k == t))) := hid (by rw [Bool.eq_iff_iff]; simp [pz])
  generalize zf k = x at *
  generalize zt k = y at *
  cases b1 : (x == f) <;> cases b2 : (y == t)
  all_goals
    have HQ := HP.out
    rw [b1, b2] at HQ
    simp only [Bool.and_self, Bool.and_true, Bool.true_and, Bool.and_false, Bool.false_and] at HQ
    have HR := hid HQ
    have HZ' := hid HZ
    clear HZ HP HQ
    have HS := AllLt.start w; go_enter Tryd.func116, Tryd.ntmps116
    go_wp2_with (go_at_call 117; (with_reducible refine (HZ'.out _ HT.out).mono ?_); rintro e w' ⟨rfl, n, rfl⟩)
    go_ret
    exact ⟨ret_bool HR.out.symm, by exact below_drewN _ _ _⟩
set_option maxHeartbeats 1000000 in
theorem where_zones (c d : Nat) (f t : Int) (w : World) (hc : w.cell? ⟨c, 0, none⟩ = some (.int .i64 f)) (hd : w.cell? ⟨d, 0, none⟩ = some (.int .i64 t)) (hT : TB w) :
    Calls Tryd.prog 105 #[.func (.func 116) #[] #[.pointer (some ⟨c, 0, none⟩), .pointer (some ⟨d, 0, none⟩)]] w fun e w' => e = .returned (.tuple #[.int .i64 (firstF (pz f t) 0 13).1, .bool (firstF (pz f t) 0 13).2]) ∧ Below w.heap.size w w' := by
  have HT := hid hT
  clear hT
  have HC := hid hc
  have hlt : c < w.heap.size := cell_lt' hc
  clear hc
  have HD := hid hd
  have hld : d < w.heap.size := cell_lt' hd
  clear hd
  have HS := AllLt.start w; go_enter Tryd.func105, Tryd.ntmps105
  go_wp2
  go_loopw [5] (fun v wr => ∃ k : Nat, k ≤ 13 ∧ v = .int .i64 k ∧ Hid (firstF (pz f t) k (13 - k) = firstF (pz f t) 0 13) ∧ Hid (Below w.heap.size w wr)) (fun v _ => 13 - (intOf v).toNat)
  case atStart => exact ⟨0, by omega, rfl, hid rfl, hid (Below.refl _ _)⟩
  case round =>
    obtain ⟨k, hk, rfl, HF, HB⟩ := hrel
    clear HS
    by_cases h13 : k < 13
    · obtain ⟨n, hn⟩ : ∃ n, 13 - k = n + 1 := ⟨12 - k, by omega⟩
      have hdi : decide ((k : Int) < 13) = true := by simp; omega
      cases hq : (pz f t) k
      · have HF2 := hid (show firstF (pz f t) (k + 1) (13 - (k + 1)) = firstF (pz f t) 0 13 by rw [← HF.out, hn, firstF_miss hq]; congr 1; omega)
        have HQ := hid hq
        clear hn hq HF
        go_wp2_with (go_at_call 116; (with_reducible refine (fzones_any k h13 c d f t _ (by rw [HB.out.cell (p := ⟨c, 0, none⟩) hlt]; exact HC.out) (by rw [HB.out.cell (p := ⟨d, 0, none⟩) hld]; exact HD.out) (HT.out.below HB.out)).mono ?_); rintro e w' ⟨rfl, hb⟩; rw [HQ.out])
        go_roundw
        case rel => exact ⟨k + 1, by omega, by go_num, HF2, hid (HB.out.trans (hb.mono HB.out.size))⟩
        case measure => simp [intOf]; omega
      · have HF2 := hid (show firstF (pz f t) 0 13 = ((k : Int), true) by rw [← HF.out, hn, firstF_hit hq])
        have HQ := hid hq
        clear hn hq HF
        go_wp2_with (go_at_call 116; (with_reducible refine (fzones_any k h13 c d f t _ (by rw [HB.out.cell (p := ⟨c, 0, none⟩) hlt]; exact HC.out) (by rw [HB.out.cell (p := ⟨d, 0, none⟩) hld]; exact HD.out) (HT.out.below HB.out)).mono ?_); rintro e w' ⟨rfl, hb⟩; rw [HQ.out])
        go_ret2
        exact ⟨by rw [HF2.out]; rfl, HB.out.trans (hb.mono HB.out.size)⟩
    · obtain rfl : k = 13 := by omega
      have hdi : decide (((13 : Nat) : Int) < 13) = false := by simp
      go_wp2
      go_ret2
      exact ⟨by rw [← HF.out]; rfl, HB.out⟩
theorem iBasicAt_any (f t : Int) (w : World) (hT : TB w) :
    Calls Tryd.prog 100 #[.int .i64 f, .int .i64 t] w fun e w' => e = .returned (.string (ltrI (batI f t))) ∧ Below w.heap.size w w' := by
  have hB0 := ((Below.refl w.heap.size w).alloc (Nat.le_refl _) (.cells #[.int .i64 f] 3)).alloc (by simp) (.cells #[.int .i64 t] 3)
  have HT := hid (hT.below hB0)
  clear hT
  rcases bat_cases f t with ⟨k, hk, he1, he2, hr⟩ | ⟨he, hr⟩
  · have HR := hid hr
    have H0 := hid hB0
    clear hr hB0
    have HS := AllLt.start w; go_enter Tryd.func100, Tryd.ntmps100
    go_wp2_with fail
    (with_reducible refine (where_zones _ _ f t _ (by simp [go_sem]) (by simp [go_sem]) HT.out).mono ?_)
    rintro e w' ⟨rfl, hb⟩
    rw [show firstF (pz f t) 0 13 = ((k : Int), true) from HR.out]
    have HB := hid (H0.out.trans (hb.mono (by simp; omega)))
    have HT2 := hid (HT.out.below hb)
    clear hb
    go_wp2_with (first | (go_at_call 84; (with_reducible refine (letter_any k hk _ HT2.out).mono ?_); rintro e w' ⟨rfl, rfl⟩))
    go_ret
    exact ⟨ret_str (by rw [batI_hit HR.out, ltrI_nat]), HB.out⟩
  · have HR := hid hr
    have H0 := hid hB0
    clear hr hB0
    have HS := AllLt.start w; go_enter Tryd.func100, Tryd.ntmps100
    go_wp2_with fail
    (with_reducible refine (where_zones _ _ f t _ (by simp [go_sem]) (by simp [go_sem]) HT.out).mono ?_)
    rintro e w' ⟨rfl, hb⟩
    rw [show firstF (pz f t) 0 13 = (0, false) from HR.out]
    have HB := hid (H0.out.trans (hb.mono (by simp; omega)))
    clear hb
    go_wp2
    go_ret
    exact ⟨ret_str (by rw [batI_miss HR.out]; rfl), HB.out⟩
end
end Go.Proofs.YtnogdjmciekieabDoor.C
