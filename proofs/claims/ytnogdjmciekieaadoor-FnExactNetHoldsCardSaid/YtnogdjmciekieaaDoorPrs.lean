/- Parsing the letters of a relation; relations with a name. -/
import Derived.Test.YtnogdjmciekieaaDoorRelF
import Derived.Test.YtnogdjmciekieaaDoorPrsP
import Derived.Lib.OthersKept
import Derived.WalkSmall
import Derived.Laws.Runes
import Derived.Laws.RangeAny
namespace Go.Proofs.YtnogdjmciekieaaDoor.C
open Go.RowKit
set_option linter.unusedVariables false
set_option linter.unusedSimpArgs false
theorem below_iterAt {B k : Nat} {w wr : World} (h : Below B w wr) (hk : B ≤ k) (s : ByteArray) (pos : Nat) : Below B w (wr.iterAt k s pos) :=
  ⟨h.os, h.tape, h.output, by simpa [World.iterAt] using h.size, fun j hj => (Lib.iterAt_other wr k j s pos (by omega)).trans (h.block j hj)⟩
theorem size_iterAt (wr : World) (k : Nat) (s : ByteArray) (pos : Nat) : (wr.iterAt k s pos).heap.size = wr.heap.size := by simp [World.iterAt]
theorem take_snoc (s : ByteArray) (i : Nat) (h : i < s.size) : s.data.toList.take (i + 1) = s.data.toList.take i ++ [s[i]'h] := by
  have hl : i < s.data.toList.length := by simpa using h
  rw [List.take_succ_eq_append_getElem hl]
  rfl
theorem take_all (s : ByteArray) (i : Nat) (h : ¬ i < s.size) : s.data.toList.take i = s.data.toList := List.take_of_length_le (by
  have : s.data.toList.length = s.size := by simp
  omega)
theorem at_mem (s : ByteArray) (i : Nat) (h : i < s.size) : s[i]'h ∈ s.data.toList := by
  have hl : i < s.data.toList.length := by simpa using h
  exact List.getElem_mem hl
theorem encode_ascii (c : UInt8) (h : c.toNat < 128) : Utf8.encode (c.toNat : Int) = ⟨#[c]⟩ := by
  have e : c = UInt8.ofNat c.toNat := by simp
  generalize c.toNat = n at *
  subst e
  have : ∀ n : Nat, n < 128 → Utf8.encode (n : Int) = ⟨#[UInt8.ofNat n]⟩ := by decide +kernel
  exact this n h
theorem bytes_list (l : List UInt8) : (⟨l.toArray⟩ : ByteArray).toList = l := by rw [ByteArray.toList_eq]
set_option maxHeartbeats 2000000 in
theorem letters_any (s : ByteArray) (w : World) (hT : TB w) :
    Calls Tryd.prog 35 #[.string s] w fun e w' => (∃ n : Nat, e = .returned (.int .i64 n) ∧ n < 8192 ∧ ((∀ c ∈ s.data.toList, c.toNat < 128) → n = letS s.data.toList)) ∧ Below w.heap.size w w' := by
  have HT := hid hT
  clear hT
  have HS := AllLt.start w; go_enter Tryd.func35, Tryd.ntmps35
  go_wp2
  go_loopw [3] (fun acc wr => ∃ pos n : Nat, acc = .int .i64 n ∧ Hid (n < 8192) ∧ Hid ((∀ c ∈ s.data.toList, c.toNat < 128) → n = letS (s.data.toList.take pos)) ∧ Hid (wr.heap[w.heap.size]? = some (.stringIter s pos)) ∧ Hid (Below w.heap.size w wr)) (fun _ wr => s.size - wr.iterPos w.heap.size)
  case atStart => exact ⟨0, 0, rfl, hid (by decide), hid (fun _ => by simp [letS_nil]), hid (World.iter_heap w s 0), hid ((Below.refl _ _).alloc (Nat.le_refl _) _)⟩
  case round =>
    obtain ⟨pos, n, rfl, HN, HL, HI, HB⟩ := hrel
    clear HS
    obtain ⟨wo, rfl⟩ : ∃ wo : World, wo = wr := ⟨_, rfl⟩
    by_cases hp : pos < s.size
    · have hw : ∃ d : Nat, 1 ≤ d ∧ Hid ((wo.iterAt w.heap.size s (pos + d)).heap[w.heap.size]? = some (.stringIter s (pos + d))) ∧ ∃ t : ByteArray, ∃ r : Int,
          (∀ ty, (Instr.next (.pointer (some ⟨w.heap.size, 0, none⟩)) true ty).run Tryd.prog wo = .ok (.tuple #[.bool true, .int .i64 pos, .int .i32 r]) (wo.iterAt w.heap.size s (pos + d))) ∧
          Utf8.encode r = t ∧ ((s[pos]'hp).toNat < 128 → d = 1 ∧ t = ⟨#[s[pos]'hp]⟩) := by
        by_cases ha : (s[pos]'hp).toNat < 128
        · exact ⟨1, Nat.le_refl _, hid (Lib.iterAt_heap wo _ s pos _ HI.out), _, _, fun ty => Lib.run_next_ascii_at wo _ s pos ty HI.out hp ha, encode_ascii _ ha, fun _ => ⟨rfl, rfl⟩⟩
        · exact ⟨_, (decode_high s pos hp (by omega)).2, hid (Lib.iterAt_heap wo _ s pos _ HI.out), _, _, fun ty => Lib.run_next_any_at wo _ s pos ty HI.out hp, rfl, fun h => absurd h ha⟩
      obtain ⟨d, hd, HI2, t, r, hnx, het, hasc⟩ := hw
      have HB2 := hid (below_iterAt HB.out (Nat.le_refl _) s (pos + d))
      have hz2 : Hid ((wo.iterAt w.heap.size s (pos + d)).iterPos w.heap.size = pos + d) := hid (iterPos_of HI2.out)
      have hz1 : Hid (wo.iterPos w.heap.size = pos) := hid (iterPos_of HI.out)
      have hlt : Hid (w.heap.size < (wo.iterAt w.heap.size s (pos + d)).heap.size) := hid (Array.getElem?_eq_some_iff.1 HI2.out).1
      generalize wo.iterAt w.heap.size s (pos + d) = wn at *
      have HA := hid hasc
      clear hasc
      rcases lix_cases t with ⟨k, hk, hek, hr⟩ | ⟨hek, hr⟩
      · have HR := hid hr
        have HO := hid (i64_or n (2 ^ k) HN.out (pow_lt hk))
        have HF : Hid ((∀ c ∈ s.data.toList, c.toNat < 128) → n ||| 2 ^ k = letS (s.data.toList.take (pos + d))) := hid fun h => by
          obtain ⟨rfl, h2⟩ := HA.out (h _ (at_mem s pos hp))
          have hc : s[pos]'hp = ltb k := by
            have := hek.symm.trans h2
            simp only [ltr, ByteArray.mk.injEq, Array.mk.injEq, List.cons.injEq, and_true] at this
            exact this.symm
          rw [take_snoc s pos hp, hc, letS_snoc _ hk, ← HL.out h]
        clear hr hek HA
        go_wp2_with fail
        (with_reducible refine (basicOfLetter_any t _ (HT.out.below HB2.out)).mono ?_)
        rintro e w2 ⟨rfl, hb⟩
        simp only [HR.out]
        have HB3 := hid (HB2.out.trans (hb.mono HB2.out.size))
        have HI3 := hid ((hb.block _ hlt.out).trans HI2.out)
        clear hb
        go_wp2_with (first | (go_at_call 66; (with_reducible refine (relationOf_any k hk _).mono ?_); rintro e w' ⟨rfl, rfl⟩))
        go_roundw
        case rel => exact ⟨pos + d, n ||| 2 ^ k, ret_val HO.out, hid (or_lt HN.out (pow_lt hk)), HF, HI3, HB3⟩
        case measure => rw [hz1.out, iterPos_of HI3.out]; omega
      · have HR := hid hr
        have HF : Hid ((∀ c ∈ s.data.toList, c.toNat < 128) → n = letS (s.data.toList.take (pos + d))) := hid fun h => by
          obtain ⟨rfl, h2⟩ := HA.out (h _ (at_mem s pos hp))
          rw [take_snoc s pos hp, letS_other _ (fun k hk e => hek k hk (by rw [h2, ltr, e])), ← HL.out h]
        clear hr hek HA
        go_wp2_with fail
        (with_reducible refine (basicOfLetter_any t _ (HT.out.below HB2.out)).mono ?_)
        rintro e w2 ⟨rfl, hb⟩
        simp only [HR.out]
        have HB3 := hid (HB2.out.trans (hb.mono HB2.out.size))
        have HI3 := hid ((hb.block _ hlt.out).trans HI2.out)
        clear hb
        go_wp2
        go_roundw
        case rel => exact ⟨pos + d, n, rfl, HN, HF, HI3, HB3⟩
        case measure => rw [hz1.out, iterPos_of HI3.out]; omega
    · have hnx : ∀ ty, (Instr.next (.pointer (some ⟨w.heap.size, 0, none⟩)) true ty).run Tryd.prog wo = _ := fun ty => Lib.run_next_end_at wo _ s pos ty HI.out hp
      have HF : Hid ((∀ c ∈ s.data.toList, c.toNat < 128) → n = letS s.data.toList) := hid fun h => by rw [HL.out h, take_all s pos hp]
      go_wp2
      go_ret
      exact ⟨⟨n, rfl, HN.out, HF.out⟩, HB.out⟩
end Go.Proofs.YtnogdjmciekieaaDoor.C
