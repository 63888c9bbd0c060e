/- The letters of a relation: the program's text and the model's. The relation of a text's letters: plain functions and facts. Parsing the letters of a relation; relations with a name. -/
import Derived.Test.YtnogdjmciekieabDoorRelU
import Derived.Test.YtnogdjmciekieabDoorBuilder
import Derived.Test.YtnogdjmciekieabDoorRelM
import Derived.Lib.OthersKept
import Derived.WalkSmall
import Derived.Laws.Runes
import Derived.Laws.RangeAny
namespace Go.Proofs.YtnogdjmciekieabDoor.C
section
open Go.RowKit
set_option linter.unusedVariables false
set_option linter.unusedSimpArgs false
theorem bytes_app (a b : List UInt8) : (⟨a.toArray⟩ : ByteArray) ++ ⟨b.toArray⟩ = ⟨(a ++ b).toArray⟩ := by
  apply ByteArray.ext
  simp [ByteArray.data_append]
theorem lts_step {n k : Nat} (h : n.testBit k = true) : (⟨(ltsF n k).toArray⟩ : ByteArray) ++ ltr k = ⟨(ltsF n (k + 1)).toArray⟩ := by
  rw [ltsF_hit h, ← bytes_app]; rfl
theorem ltsF_nil {n : Nat} : ∀ {k : Nat}, ltsF n k = [] ↔ ∀ j, j < k → n.testBit j = false
  | 0 => by simp [ltsF]
  | k + 1 => by
    cases h : n.testBit k
    · rw [ltsF_miss h, ltsF_nil]
      constructor
      · intro H j hj
        by_cases e : j = k
        · rw [e]; exact h
        · exact H j (by omega)
      · intro H j hj; exact H j (by omega)
    · rw [ltsF_hit h]
      constructor
      · intro H; simp at H
      · intro H; have := H k (by omega); rw [h] at this; cases this
theorem lts_zero {n : Nat} (hn : n < 8192) (h : ltsF n 13 = []) : n = 0 :=
  set_ext hn (by decide) fun j hj => by rw [ltsF_nil.1 h j hj]; simp
set_option maxHeartbeats 2000000 in
theorem rtext_any (n : Nat) (hn : n < 8192) (w : World) (hT : TB w) :
    Calls Tryd.prog 42 #[.int .i64 n] w fun e w' => e = .returned (.string ⟨(ltsN n).toArray⟩) ∧ Below w.heap.size w w' := by
  have HT := hid hT
  clear hT
  by_cases h0 : n = 0
  · subst h0
    have HS := AllLt.start w; go_enter Tryd.func42, Tryd.ntmps42
    go_wp2
    go_ret
    exact ⟨rfl, Below.refl _ _⟩
  · have hne : ((n : Int) == 0) = false := by simp; omega
    have HL := hid (show ltsN n = ltsF n 13 by simp [ltsN, h0])
    have hb0 := hid (Bw.start w w (Below.refl _ _))
    have HS := AllLt.start w; go_enter Tryd.func42, Tryd.ntmps42
    go_wp2
    go_loopw [7] (fun v wr => ∃ k : Nat, k ≤ 13 ∧ v = .int .i64 k ∧ Hid (Bw w w.heap.size (ltsF n k) wr)) (fun v _ => 13 - (intOf v).toNat)
    case atStart => exact ⟨0, by omega, rfl, hb0⟩
    case round =>
      obtain ⟨k, hk, rfl, HB⟩ := hrel
      clear HS
      by_cases h13 : k < 13
      · have hdi : decide ((k : Int) < 13) = true := by simp; omega
        cases hq : n.testBit k
        · have HF := hid (ltsF_miss hq)
          have HQ := hid hq
          clear hq
          go_wp2_with (first | (go_at_call 74; (with_reducible refine (rhas_any n k hn h13 _).mono ?_); rintro e w' ⟨rfl, rfl⟩; rw [HQ.out]))
          go_roundw
          case rel => exact ⟨k + 1, by omega, by go_num, hid (by rw [HF.out]; exact HB.out)⟩
          case measure => simp [intOf]; omega
        · have HF := hid (ltsF_hit hq)
          have HQ := hid hq
          have hlen : (ltsF n k).length + (ltr k).size ≤ 140737488355328 := by
            have := ltsF_len n k
            show (ltsF n k).length + 1 ≤ _
            omega
          clear hq
          go_wp2_with (first | (go_at_call 74; (with_reducible refine (rhas_any n k hn h13 _).mono ?_); rintro e w' ⟨rfl, rfl⟩; rw [HQ.out]) | (go_at_call 84; (with_reducible refine (letter_any k h13 _ (HT.out.below HB.out.below)).mono ?_); rintro e w' ⟨rfl, rfl⟩) | (go_at_call 83; (with_reducible refine (WriteString_w w _ _ _ _ HB.out hlen).mono ?_); rintro e w' ⟨rfl, hb⟩))
          go_roundw
          case rel => exact ⟨k + 1, by omega, by go_num, hid (by rw [HF.out]; exact hb)⟩
          case measure => simp [intOf]; omega
      · obtain rfl : k = 13 := by omega
        have hdi : decide (((13 : Nat) : Int) < 13) = false := by simp
        go_wp2_with (first | (go_at_call 85; (with_reducible refine (String_w w _ _ _ HB.out).mono ?_); rintro e w' ⟨rfl, hb⟩))
        go_ret
        exact ⟨ret_str (congrArg (fun l : List UInt8 => (⟨l.toArray⟩ : ByteArray)) HL.out.symm), hb⟩
end
section
open Go.RowKit
/-- all basic relations whose letters are in a list -/
def letS (l : List UInt8) : Nat := whN fun k => decide (ltb k ∈ l)
theorem letS_lt (l : List UInt8) : letS l < 8192 := whF_lt (Nat.le_refl _)
theorem letS_test {l : List UInt8} {j : Nat} (hj : j < 13) : (letS l).testBit j = decide (ltb j ∈ l) := whN_test hj
theorem letS_nil : letS [] = 0 := by decide +kernel
theorem ltb_inj {j k : Nat} (hj : j < 13) (hk : k < 13) (h : ltb j = ltb k) : j = k := by
  have := ltr_inj ⟨j, hj⟩ ⟨k, hk⟩ h
  simpa using this
theorem letS_snoc (l : List UInt8) {k : Nat} (hk : k < 13) : letS (l ++ [ltb k]) = letS l ||| 2 ^ k := by
  refine set_ext (letS_lt _) (or_lt (letS_lt _) (pow_lt hk)) fun j hj => ?_
  rw [letS_test hj, Nat.testBit_or, letS_test hj, Nat.testBit_two_pow, Bool.eq_iff_iff]
  simp only [List.mem_append, List.mem_singleton, decide_eq_true_eq, Bool.or_eq_true]
  constructor
  · rintro (h | h)
    · exact .inl h
    · exact .inr (ltb_inj hj hk h).symm
  · rintro (h | h)
    · exact .inl h
    · subst h; exact .inr rfl
theorem letS_other (l : List UInt8) {c : UInt8} (h : ∀ k, k < 13 → ltb k ≠ c) : letS (l ++ [c]) = letS l := by
  refine set_ext (letS_lt _) (letS_lt _) fun j hj => ?_
  rw [letS_test hj, letS_test hj, Bool.eq_iff_iff]
  simp only [List.mem_append, List.mem_singleton, decide_eq_true_eq]
  exact ⟨fun h' => h'.resolve_right (h j hj), .inl⟩
theorem mem_ltsF {n : Nat} {c : UInt8} : ∀ {k : Nat}, c ∈ ltsF n k ↔ ∃ j, j < k ∧ n.testBit j = true ∧ c = ltb j
  | 0 => by simp [ltsF]
  | k + 1 => by
    simp only [ltsF, List.mem_append, mem_ltsF (k := k)]
    constructor
    · rintro (⟨j, h1, h2, h3⟩ | h)
      · exact ⟨j, by omega, h2, h3⟩
      · split at h
        · rename_i ht
          exact ⟨k, by omega, ht, by simpa using h⟩
        · simp at h
    · rintro ⟨j, h1, h2, h3⟩
      by_cases e : j = k
      · subst e; exact .inr (by simp [h2, h3])
      · exact .inl ⟨j, by omega, h2, h3⟩
theorem letS_lts {n : Nat} (hn : n < 8192) : letS (ltsN n) = n := by
  refine set_ext (letS_lt _) hn fun j hj => ?_
  rw [letS_test hj, Bool.eq_iff_iff, decide_eq_true_eq]
  unfold ltsN
  split
  · rename_i h; subst h
    simp only [List.mem_singleton, Nat.zero_testBit]
    rcases nat13 hj with rfl | rfl | rfl | rfl | rfl | rfl | rfl | rfl | rfl | rfl | rfl | rfl | rfl <;> decide
  · rw [mem_ltsF]
    constructor
    · rintro ⟨i, h1, h2, h3⟩
      rw [ltb_inj hj h1 h3]; exact h2
    · intro h; exact ⟨j, hj, h, rfl⟩
/-- the text's relation, if it has one -/
def prs (s : ByteArray) : Int × Bool := if fmS (letS s.data.toList : Nat) = s then (((letS s.data.toList : Nat) : Int), true) else (0, false)
theorem prs_hit {s : ByteArray} (h : fmS (letS s.data.toList : Nat) = s) : prs s = (((letS s.data.toList : Nat) : Int), true) := by simp [prs, h]
theorem prs_miss {s : ByteArray} (h : ¬ fmS (letS s.data.toList : Nat) = s) : prs s = (0, false) := by simp [prs, h]
theorem letS_fm {n : Nat} (hn : n < 8192) : letS (fmS n).data.toList = n := by rw [fmS_on hn]; exact letS_lts hn
theorem prs_fm {n : Nat} (hn : n < 8192) : prs (fmS n) = ((n : Int), true) := by
  rw [prs_hit (by rw [letS_fm hn]), letS_fm hn]
/-- a relation's text has letters alone, if any -/
theorem fm_letters {n : Nat} (hn : n < 8192) {c : UInt8} (hc : c ∈ (fmS n).data.toList) : (∃ k, k < 13 ∧ ltb k = c) ∨ fmS n = ⟨#[45]⟩ := by
  rw [fmS_on hn] at hc ⊢
  unfold ltsN at hc ⊢
  split
  · exact .inr rfl
  · rename_i h
    simp only [h, if_false] at hc
    obtain ⟨j, h1, _, h3⟩ := mem_ltsF.1 hc
    exact .inl ⟨j, h1, h3.symm⟩
theorem ltb_ascii {k : Nat} (h : k < 13) : (ltb k).toNat < 128 := by
  rcases nat13 h with rfl | rfl | rfl | rfl | rfl | rfl | rfl | rfl | rfl | rfl | rfl | rfl | rfl <;> decide
theorem fm_ascii {n : Nat} (hn : n < 8192) {c : UInt8} (hc : c ∈ (fmS n).data.toList) : c.toNat < 128 := by
  rcases fm_letters hn hc with ⟨k, hk, rfl⟩ | h
  · exact ltb_ascii hk
  · rw [h] at hc
    simp at hc
    subst hc
    decide
/-- a letter that is none: the text is no relation's, unless it is the sign for none -/
theorem prs_bad {s : ByteArray} {c : UInt8} (hs : ¬ s = ⟨#[45]⟩) (hc : c ∈ s.data.toList) (h : ∀ k, k < 13 → ltb k ≠ c) : prs s = (0, false) := by
  refine prs_miss fun e => ?_
  rcases fm_letters (letS_lt s.data.toList) (by rw [e]; exact hc) with ⟨k, hk, h2⟩ | h2
  · exact h k hk h2
  · exact hs (e ▸ h2)
/-- what the program finds, by whatever set it reads off a text that is not ASCII alone -/
theorem prs_prog {s : ByteArray} {n : Nat} (hn : n < 8192) (h : (∀ c ∈ s.data.toList, c.toNat < 128) → n = letS s.data.toList) :
    (fmS n = s → prs s = ((n : Int), true)) ∧ (¬ fmS n = s → prs s = (0, false)) := by
  constructor
  · intro e
    rw [← e]
    exact prs_fm hn
  · intro e
    refine prs_miss fun e2 => ?_
    have := h fun c hc => fm_ascii (letS_lt s.data.toList) (by rw [e2]; exact hc)
    exact e (by rw [this]; exact e2)
end
section
open Go.RowKit
set_option linter.unusedVariables false
set_option linter.unusedSimpArgs false
theorem below_iterAt {B k : Nat} {w wr : World} (h : Below B w wr) (hk : B ≤ k) (s : ByteArray) (pos : Nat) : Below B w (wr.iterAt k s pos) :=
  ⟨h.os, h.tape, h.output, by simpa [World.iterAt] using h.size, fun j hj => (Lib.iterAt_other wr k j s pos (by omega)).trans (h.block j hj)⟩
theorem size_iterAt (wr : World) (k : Nat) (s : ByteArray) (pos : Nat) : (wr.iterAt k s pos).heap.size = wr.heap.size := by simp [World.iterAt]
theorem take_snoc (s : ByteArray) (i : Nat) (h : i < s.size) : s.data.toList.take (i + 1) = s.data.toList.take i ++ [s[i]'h] := by
  have hl : i < s.data.toList.length := by simpa using h
  rw [List.take_succ_eq_append_getElem hl]
  rfl
theorem take_all (s : ByteArray) (i : Nat) (h : ¬ i < s.size) : s.data.toList.take i = s.data.toList := List.take_of_length_le (by
  have : s.data.toList.length = s.size := by simp
  omega)
theorem at_mem (s : ByteArray) (i : Nat) (h : i < s.size) : s[i]'h ∈ s.data.toList := by
  have hl : i < s.data.toList.length := by simpa using h
  exact List.getElem_mem hl
theorem encode_ascii (c : UInt8) (h : c.toNat < 128) : Utf8.encode (c.toNat : Int) = ⟨#[c]⟩ := by
  have e : c = UInt8.ofNat c.toNat := by simp
  generalize c.toNat = n at *
  subst e
  have : ∀ n : Nat, n < 128 → Utf8.encode (n : Int) = ⟨#[UInt8.ofNat n]⟩ := by decide +kernel
  exact this n h
theorem bytes_list (l : List UInt8) : (⟨l.toArray⟩ : ByteArray).toList = l := by rw [ByteArray.toList_eq]
set_option maxHeartbeats 2000000 in
theorem letters_any (s : ByteArray) (w : World) (hT : TB w) :
    Calls Tryd.prog 41 #[.string s] w fun e w' => (∃ n : Nat, e = .returned (.int .i64 n) ∧ n < 8192 ∧ ((∀ c ∈ s.data.toList, c.toNat < 128) → n = letS s.data.toList)) ∧ Below w.heap.size w w' := by
  have HT := hid hT
  clear hT
  have HS := AllLt.start w; go_enter Tryd.func41, Tryd.ntmps41
  go_wp2
  go_loopw [3] (fun acc wr => ∃ pos n : Nat, acc = .int .i64 n ∧ Hid (n < 8192) ∧ Hid ((∀ c ∈ s.data.toList, c.toNat < 128) → n = letS (s.data.toList.take pos)) ∧ Hid (wr.heap[w.heap.size]? = some (.stringIter s pos)) ∧ Hid (Below w.heap.size w wr)) (fun _ wr => s.size - wr.iterPos w.heap.size)
  case atStart => exact ⟨0, 0, rfl, hid (by decide), hid (fun _ => by simp [letS_nil]), hid (World.iter_heap w s 0), hid ((Below.refl _ _).alloc (Nat.le_refl _) _)⟩
  case round =>
    obtain ⟨pos, n, rfl, HN, HL, HI, HB⟩ := hrel
    clear HS
    obtain ⟨wo, rfl⟩ : ∃ wo : World, wo = wr := ⟨_, rfl⟩
    by_cases hp : pos < s.size
    · have hw : ∃ d : Nat, 1 ≤ d ∧ Hid ((wo.iterAt w.heap.size s (pos + d)).heap[w.heap.size]? = some (.stringIter s (pos + d))) ∧ ∃ t : ByteArray, ∃ r : Int,
          (∀ ty, (Instr.next (.pointer (some ⟨w.heap.size, 0, none⟩)) true ty).run Tryd.prog wo = .ok (.tuple #[.bool true, .int .i64 pos, .int .i32 r]) (wo.iterAt w.heap.size s (pos + d))) ∧
          Utf8.encode r = t ∧ ((s[pos]'hp).toNat < 128 → d = 1 ∧ t = ⟨#[s[pos]'hp]⟩) := by
        by_cases ha : (s[pos]'hp).toNat < 128
        · exact ⟨1, Nat.le_refl _, hid (Lib.iterAt_heap wo _ s pos _ HI.out), _, _, fun ty => Lib.run_next_ascii_at wo _ s pos ty HI.out hp ha, encode_ascii _ ha, fun _ => ⟨rfl, rfl⟩⟩
        · exact ⟨_, (decode_high s pos hp (by omega)).2, hid (Lib.iterAt_heap wo _ s pos _ HI.out), _, _, fun ty => Lib.run_next_any_at wo _ s pos ty HI.out hp, rfl, fun h => absurd h ha⟩
      obtain ⟨d, hd, HI2, t, r, hnx, het, hasc⟩ := hw
      have HB2 := hid (below_iterAt HB.out (Nat.le_refl _) s (pos + d))
      have hz2 : Hid ((wo.iterAt w.heap.size s (pos + d)).iterPos w.heap.size = pos + d) := hid (iterPos_of HI2.out)
      have hz1 : Hid (wo.iterPos w.heap.size = pos) := hid (iterPos_of HI.out)
      have hlt : Hid (w.heap.size < (wo.iterAt w.heap.size s (pos + d)).heap.size) := hid (Array.getElem?_eq_some_iff.1 HI2.out).1
      generalize wo.iterAt w.heap.size s (pos + d) = wn at *
      have HA := hid hasc
      clear hasc
      rcases lix_cases t with ⟨k, hk, hek, hr⟩ | ⟨hek, hr⟩
      · have HR := hid hr
        have HO := hid (i64_or n (2 ^ k) HN.out (pow_lt hk))
        have HF : Hid ((∀ c ∈ s.data.toList, c.toNat < 128) → n ||| 2 ^ k = letS (s.data.toList.take (pos + d))) := hid fun h => by
          obtain ⟨rfl, h2⟩ := HA.out (h _ (at_mem s pos hp))
          have hc : s[pos]'hp = ltb k := by
            have := hek.symm.trans h2
            simp only [ltr, ByteArray.mk.injEq, Array.mk.injEq, List.cons.injEq, and_true] at this
            exact this.symm
          rw [take_snoc s pos hp, hc, letS_snoc _ hk, ← HL.out h]
        clear hr hek HA
        go_wp2_with fail
        (with_reducible refine (basicOfLetter_any t _ (HT.out.below HB2.out)).mono ?_)
        rintro e w2 ⟨rfl, hb⟩
        simp only [HR.out]
        have HB3 := hid (HB2.out.trans (hb.mono HB2.out.size))
        have HI3 := hid ((hb.block _ hlt.out).trans HI2.out)
        clear hb
        go_wp2_with (first | (go_at_call 82; (with_reducible refine (relationOf_any k hk _).mono ?_); rintro e w' ⟨rfl, rfl⟩))
        go_roundw
        case rel => exact ⟨pos + d, n ||| 2 ^ k, ret_val HO.out, hid (or_lt HN.out (pow_lt hk)), HF, HI3, HB3⟩
        case measure => rw [hz1.out, iterPos_of HI3.out]; omega
      · have HR := hid hr
        have HF : Hid ((∀ c ∈ s.data.toList, c.toNat < 128) → n = letS (s.data.toList.take (pos + d))) := hid fun h => by
          obtain ⟨rfl, h2⟩ := HA.out (h _ (at_mem s pos hp))
          rw [take_snoc s pos hp, letS_other _ (fun k hk e => hek k hk (by rw [h2, ltr, e])), ← HL.out h]
        clear hr hek HA
        go_wp2_with fail
        (with_reducible refine (basicOfLetter_any t _ (HT.out.below HB2.out)).mono ?_)
        rintro e w2 ⟨rfl, hb⟩
        simp only [HR.out]
        have HB3 := hid (HB2.out.trans (hb.mono HB2.out.size))
        have HI3 := hid ((hb.block _ hlt.out).trans HI2.out)
        clear hb
        go_wp2
        go_roundw
        case rel => exact ⟨pos + d, n, rfl, HN, HF, HI3, HB3⟩
        case measure => rw [hz1.out, iterPos_of HI3.out]; omega
    · have hnx : ∀ ty, (Instr.next (.pointer (some ⟨w.heap.size, 0, none⟩)) true ty).run Tryd.prog wo = _ := fun ty => Lib.run_next_end_at wo _ s pos ty HI.out hp
      have HF : Hid ((∀ c ∈ s.data.toList, c.toNat < 128) → n = letS s.data.toList) := hid fun h => by rw [HL.out h, take_all s pos hp]
      go_wp2
      go_ret
      exact ⟨⟨n, rfl, HN.out, HF.out⟩, HB.out⟩
set_option maxHeartbeats 1000000 in
theorem iParseRel_any (s : ByteArray) (w : World) (hT : TB w) :
    Calls Tryd.prog 10 #[.string s] w fun e w' => e = .returned (.tuple #[.int .i64 (prs s).1, .bool (prs s).2]) ∧ Below w.heap.size w w' := by
  have HT := hid hT
  clear hT
  have HS := AllLt.start w; go_enter Tryd.func10, Tryd.ntmps10
  go_wp2_with fail
  (with_reducible refine (letters_any s _ HT.out).mono ?_)
  rintro e w1 ⟨⟨n, rfl, hn, hl⟩, hb1⟩
  have HQ := prs_prog hn hl
  rw [fmS_on hn] at HQ
  have HT1 := hid (HT.out.below hb1)
  have HB1 := hid hb1
  clear hl hb1
  by_cases h : (⟨(ltsN n).toArray⟩ : ByteArray) = s
  · have HP := hid (HQ.1 h)
    have hb := same_t h
    rw [bytes_list] at hb
    clear HQ h
    go_wp2_with (first | (go_at_call 42; (with_reducible refine (rtext_any n hn _ HT1.out).mono ?_); rintro e w2 ⟨rfl, hb2⟩; have HB2 := hid (HB1.out.trans (hb2.mono HB1.out.size)); clear hb2))
    go_ret2
    exact ⟨by rw [HP.out]; rfl, HB2.out⟩
  · have HP := hid (HQ.2 h)
    have hb := same_f h
    rw [bytes_list] at hb
    clear HQ h
    go_wp2_with (first | (go_at_call 42; (with_reducible refine (rtext_any n hn _ HT1.out).mono ?_); rintro e w2 ⟨rfl, hb2⟩; have HB2 := hid (HB1.out.trans (hb2.mono HB1.out.size)); clear hb2))
    go_ret2
    exact ⟨by rw [HP.out]; rfl, HB2.out⟩
end
end Go.Proofs.YtnogdjmciekieabDoor.C
