/- The program reads a network of points; whether it is valid. -/
import Derived.Test.YtmdgkhebefnfeaaDoorPntE
namespace Go.Proofs.YtmdgkhebefnfeaaDoor.C
open Go.RowKit
set_option linter.unusedVariables false
set_option linter.unusedSimpArgs false
theorem indexByte_8 (c : UInt8) : Lib.indexByte [48, 49, 50, 51, 52, 53, 54, 55] c = dgI c := by
  rcases dgI_cases c with h | ⟨k, hk, e, h⟩
  · have q : ∀ k, k < 8 → (dg8 k == c) = false := fun k hk => by
      rw [beq_eq_false_iff_ne]
      intro e
      have := dgI_dg8 hk
      rw [e] at this
      omega
    have q0 := q 0 (by omega); have q1 := q 1 (by omega); have q2 := q 2 (by omega); have q3 := q 3 (by omega); have q4 := q 4 (by omega); have q5 := q 5 (by omega); have q6 := q 6 (by omega); have q7 := q 7 (by omega)
    simp only [dg8, List.getD_cons_zero, List.getD_cons_succ] at q0 q1 q2 q3 q4 q5 q6 q7
    rw [h]
    simp [Lib.indexByte, q0, q1, q2, q3, q4, q5, q6, q7]
  · subst e
    rw [h]
    clear h
    rcases nat8 hk with rfl | rfl | rfl | rfl | rfl | rfl | rfl | rfl <;> decide +kernel
theorem idx8_any (c : UInt8) (w : World) :
    Calls Tryd.prog 105 #[.string ⟨#[48, 49, 50, 51, 52, 53, 54, 55]⟩, .int .u8 c.toNat] w fun e w' => e = .returned (.int .i64 (dgI c)) ∧ w = w' :=
  (Tryd.strings_IndexByte _ _ w).mono fun e w' ⟨he, hw⟩ => ⟨by
    rw [he, ← indexByte_8 c]
    have : ((c.toNat : Int).toNat.toUInt8) = c := by simp
    rw [this], hw.symm⟩
theorem cellsP : Tryd.prog.cellsOf 26 = 2 := by kernel_rfl
theorem cellsI : Tryd.prog.cellsOf 3 = 1 := by kernel_rfl
theorem cellsS : Tryd.prog.cellsOf 9 = 1 := by kernel_rfl
theorem pn_lits {z : Int} {s : ByteArray} (hz : (Lit.int .i64 z).wf = true) (hs : s.size ≤ maxLen) : Tryd.prog.keyLits 8 26 (Value.agg #[.int .i64 z, .string s]).cells.toList = some [.int .i64 z, .string s.data.toList] := by
  have kI : Tryd.prog.keyLits 7 3 [.int .i64 z] = some [.int .i64 z] := by
    rw [Program.keyLits.eq_3 _ _ 6 .i64 _ _ Tryd.underlying3, if_pos ⟨rfl, hz⟩]
  have kS : Tryd.prog.keyLits 7 9 [.string s] = some [.string s.data.toList] := by
    rw [Program.keyLits.eq_4 _ _ 6 _ Tryd.underlying9, if_pos hs]
  rw [Program.keyLits.eq_6 _ _ 7 _ _ Tryd.underlying26, cellsP, if_pos ⟨rfl, by kernel_rfl⟩]
  simp [Value.cells, cellsI, cellsS, kI, kS]
theorem run_pn {n m : Nat} {s t : ByteArray} (hn : n ≤ 12) (hm : m ≤ 12) (hs : s.size ≤ 144) (ht : t.size ≤ 144) (w : World) : (Op.equalIn 10000 26 (.agg #[.int .i64 (n : Int), .string s]) (.agg #[.int .i64 (m : Int), .string t])).run Tryd.prog w = .ok (decide (n = m ∧ s = t)) w := by
  have wfn : ∀ k : Nat, k ≤ 12 → (Lit.int .i64 (k : Int)).wf = true := by
    intro k hk
    have : k = 0 ∨ k = 1 ∨ k = 2 ∨ k = 3 ∨ k = 4 ∨ k = 5 ∨ k = 6 ∨ k = 7 ∨ k = 8 ∨ k = 9 ∨ k = 10 ∨ k = 11 ∨ k = 12 := by omega
    rcases this with rfl | rfl | rfl | rfl | rfl | rfl | rfl | rfl | rfl | rfl | rfl | rfl | rfl <;> decide +kernel
  obtain ⟨r, hr, hi⟩ := run_equalIn_deep (P := Tryd.prog) 9990 10 26 (by kernel_rfl) w 8 8 (.agg #[.int .i64 (n : Int), .string s]) (.agg #[.int .i64 (m : Int), .string t])
    [.int .i64 (n : Int), .string s.data.toList] [.int .i64 (m : Int), .string t.data.toList] (by kernel_rfl) (by kernel_rfl) (pn_lits (wfn n hn) (by unfold maxLen; omega)) (pn_lits (wfn m hm) (by unfold maxLen; omega))
  have e : r = decide (n = m ∧ s = t) := by
    rw [Bool.eq_iff_iff, hi]
    simp only [List.cons.injEq, Lit.int.injEq, Lit.string.injEq, and_true, true_and, decide_eq_true_eq]
    constructor
    · rintro ⟨e1, e2⟩; exact ⟨by omega, ByteArray.ext (Array.ext' e2)⟩
    · rintro ⟨rfl, rfl⟩; exact ⟨rfl, rfl⟩
  rw [← e]
  exact hr
theorem bt_idx (s : ByteArray) {x k : Nat} (h : x + k < s.size) (w : World) : (Instr.index 9 (.string s) (.int .i64 ((x : Int) + (k : Int)))).run Tryd.prog w = .ok (.int .u8 (bt s (x + k)).toNat) w := by
  have e : ((x : Int) + (k : Int)).toNat = x + k := by omega
  rw [run_index_string w _ s _ _ Tryd.underlying9, dif_pos ⟨by omega, by omega⟩]
  simp only [e]
  rw [bt_at h]
set_option maxHeartbeats 4000000 in
set_option maxRecDepth 100000 in
theorem pofOff_any (z : Int) (s : ByteArray) (h : ¬ (1 ≤ z ∧ z ≤ 12)) (w : World) :
    Calls Tryd.prog 52 #[.agg #[.int .i64 z, .string s]] w fun e w' => e = .returned (.tuple #[.agg #[.int .i64 0, .map none], .bool false]) ∧ Below w.heap.size w w' := by
  have HF := hid (freeP_off z h)
  clear h
  have HS := AllLt.start w; have hn2 := lt2; have hn3 := lt3; have hn4 := lt4; go_enter Tryd.func52, Tryd.ntmps52
  go_wp2_with (first | (go_at_call 103; (with_reducible refine (HF.out _).mono ?_); rintro e w' ⟨rfl, hb⟩; obtain ⟨HB, hz0, hz, hc, hf⟩ := bst (w0 := w) (by go_grown) hb; clear hb; (try simp at hz); (first | ((refine HS.g5 (m := w'.heap.size) ?_ ?_); (focus omega); intro HS) | ((refine HS.g4 (m := w'.heap.size) ?_ ?_); (focus omega); intro HS) | ((refine HS.g3 (m := w'.heap.size) ?_ ?_); (focus omega); intro HS) | ((refine HS.g2 (m := w'.heap.size) ?_ ?_); (focus omega); intro HS) | ((refine HS.g1 (m := w'.heap.size) ?_ ?_); (focus omega); intro HS) | ((refine HS.g0 (m := w'.heap.size) ?_ ?_); (focus omega); intro HS)); have HU := HS; simp only [AllLt] at HU))
  refine bodyPost_ret (by simp [results, Tryd.results52, go_sem, *]; try rfl) rfl ?_
  exact ⟨rfl, by (repeat' (first | (with_reducible exact Below.refl _ _) | (with_reducible refine Below.setCell ?_ ?_ _) | (with_reducible refine below_drewN' ?_ _) | (with_reducible refine below_drew' ?_) | (with_reducible refine Below.alloc ?_ ?_ _) | (with_reducible assumption) | go_size))⟩
set_option maxHeartbeats 4000000 in
set_option maxRecDepth 100000 in
theorem pof_len (n : Nat) (s : ByteArray) (h1 : 1 ≤ n) (h2 : n ≤ 12) (h : ¬ s.size = n * n) (w : World) :
    Calls Tryd.prog 52 #[.agg #[.int .i64 (n : Int), .string s]] w fun e w' => e = .returned (.tuple #[.agg #[.int .i64 0, .map none], .bool false]) ∧ Below w.heap.size w w' := by
  have HF := hid (freeP_any n h1 h2)
  have hnn : (n : Int) * (n : Int) = ((n * n : Nat) : Int) := by push_cast; rfl
  have h144 : n * n ≤ 144 := Nat.mul_le_mul h2 h2
  generalize n * n = nn at *
  have hq : ((s.size : Int) != (nn : Int)) = true := by rw [bne_iff_ne]; omega
  clear h
  have HS := AllLt.start w; have hn2 := lt2; have hn3 := lt3; have hn4 := lt4; go_enter Tryd.func52, Tryd.ntmps52
  go_wp2_with fail
  (with_reducible refine (HF.out _).mono ?_)
  rintro e w' ⟨⟨g, rfl, _, _⟩, hb⟩
  obtain ⟨HB, hz0, hz, hc, hf⟩ := bst (w0 := w) (by go_grown) hb; clear hb; (try simp at hz); (first | ((refine HS.g5 (m := w'.heap.size) ?_ ?_); (focus omega); intro HS) | ((refine HS.g4 (m := w'.heap.size) ?_ ?_); (focus omega); intro HS) | ((refine HS.g3 (m := w'.heap.size) ?_ ?_); (focus omega); intro HS) | ((refine HS.g2 (m := w'.heap.size) ?_ ?_); (focus omega); intro HS) | ((refine HS.g1 (m := w'.heap.size) ?_ ?_); (focus omega); intro HS) | ((refine HS.g0 (m := w'.heap.size) ?_ ?_); (focus omega); intro HS)); have HU := HS; simp only [AllLt] at HU
  go_wp2_with fail
  refine bodyPost_ret (by simp [results, Tryd.results52, go_sem, *]; try rfl) rfl ?_
  exact ⟨rfl, by (repeat' (first | (with_reducible exact Below.refl _ _) | (with_reducible refine Below.setCell ?_ ?_ _) | (with_reducible refine below_drewN' ?_ _) | (with_reducible refine below_drew' ?_) | (with_reducible refine Below.alloc ?_ ?_ _) | (with_reducible assumption) | go_size))⟩
def Pz (w : World) (b : Nat) : Prop := w.heap[b]? = some (.cells #[.int .i64 0, .map none] 65 (0, 0))
section
variable {w w' : World} {b : Nat}
theorem Pz.lt (h : Pz w b) : b < w.heap.size := (Array.getElem?_eq_some_iff.1 h).1
theorem Pz.below {B : Nat} (h : Pz w b) (hb : Below B w w') (hB : b < B) : Pz w' b := (hb.block b hB).trans h
theorem Pz.wr {q : Nat} (h : Pz w b) (hw : Wr q w w') (hq : b ≠ q) : Pz w' b := (hw.block b h.lt hq).trans h
theorem Pz.c0 (h : Pz w b) : w.cell? ⟨b, 0, none⟩ = some (.int .i64 0) := by rw [cell_of_row w b _ _ _ _ h]; rfl
theorem Pz.c1 (h : Pz w b) : w.cell? ⟨b, 1, none⟩ = some (.map none) := by rw [cell_of_row w b _ _ _ _ h]; rfl
theorem Pz.fr (h : Pz w b) (j : Nat) : w.frozen? ⟨b, j, none⟩ = false := frozen_of_row w b j _ _ h
theorem Pz.made (w : World) : Pz (w.alloc (.cells #[.int .i64 0, .map none] 65)) w.heap.size := heap_alloc_new w _
end
/-- what reading a network of points ends with -/
def PofPost (w : World) (n : Nat) (s : ByteArray) (e : Ending) (w' : World) : Prop :=
  ((PV n s = false ∧ e = .returned (.tuple #[.agg #[.int .i64 0, .map none], .bool false])) ∨ (PV n s = true ∧ ∃ g, e = .returned (.tuple #[.agg #[.int .i64 (n : Int), .map (some g)], .bool true]) ∧ w.heap.size ≤ g ∧ PN w' g n (pmx n s))) ∧ Below w.heap.size w w'
/-- the network of the pairs that have been read -/
def upF (n : Nat) (s : ByteArray) (l : List (Nat × Nat)) : Nat → Nat → Nat := upQ fun a b => if (a, b) ∈ l then pmx n s a b else 7
theorem upF_0 (n : Nat) (s : ByteArray) : upF n s [] = frQ := by
  funext a b
  unfold upF upQ frQ
  simp
  by_cases e : a = b
  · simp [e]
  · simp [e]; intro _; rfl
theorem upF_put (n : Nat) (s : ByteArray) (l : List (Nat × Nat)) (p : Nat × Nat) (h : p.1 < p.2) : putQ (upF n s l) p.1 p.2 (pmx n s p.1 p.2) = upF n s (l ++ [p]) := by
  unfold upF
  rw [putQ_up _ _ h]
  congr 1
  funext a b
  by_cases e : a = p.1 ∧ b = p.2
  · obtain ⟨rfl, rfl⟩ := e
    simp
  · rw [if_neg e]
    have : ((a, b) ∈ l ++ [p]) ↔ (a, b) ∈ l := by
      rw [List.mem_append]
      constructor
      · rintro (h | h)
        · exact h
        · exact absurd (by rw [← (List.mem_singleton.1 h)]; exact ⟨rfl, rfl⟩) e
      · exact .inl
    by_cases q : (a, b) ∈ l
    · rw [if_pos q, if_pos (this.2 q)]
    · rw [if_neg q, if_neg (fun h => q (this.1 h))]
theorem upF_all {n : Nat} {s : ByteArray} {i k : Nat} (hi : i < n) (hk : k < n) : upF n s (pqL n) i k = upQ (pmx n s) i k :=
  upQ_congr (fun a b hab hb => if_pos (pqL_mem.2 ⟨hab, hb⟩)) hi hk
set_option maxHeartbeats 8000000 in
set_option maxRecDepth 100000 in
theorem pof_main (n : Nat) (s : ByteArray) (h1 : 1 ≤ n) (h2 : n ≤ 12) (h : s.size = n * n) (w : World) (hT : TO w) :
    Calls Tryd.prog 52 #[.agg #[.int .i64 (n : Int), .string s]] w (PofPost w n s) := by
  have HF := hid (freeP_any n h1 h2)
  have hnn : (n : Int) * (n : Int) = ((n * n : Nat) : Int) := by push_cast; rfl
  have h144 : n * n ≤ 144 := Nat.mul_le_mul h2 h2
  have HSZ := hid h
  have HTL := hid (Tb.lt hT)
  have HLN := hid (pqL_len h2)
  generalize hnq : n * n = nn at *
  have HNQ := hid hnq
  have hq : ((s.size : Int) != (nn : Int)) = false := by rw [h]; simp
  have HBA := hid (((Below.refl w.heap.size w).alloc (Nat.le_refl _) (.cells #[.int .i64 (n : Int), .string s] 26)).alloc (by simp) (.cells #[.int .i64 0, .map none] 65))
  have HK0 := hid (show Pk ((w.alloc (.cells #[.int .i64 (n : Int), .string s] 26)).alloc (.cells #[.int .i64 0, .map none] 65)) w.heap.size n s from (Below.heap_alloc _ _ _ (by simp)).trans (Pk.made w n s))
  have HZ0 := hid (show Pz ((w.alloc (.cells #[.int .i64 (n : Int), .string s] 26)).alloc (.cells #[.int .i64 0, .map none] 65)) (w.heap.size + 1) by
    have := Pz.made (w.alloc (.cells #[.int .i64 (n : Int), .string s] 26))
    rw [World.size_alloc] at this
    exact this)
  have HTT := hid hT
  clear h hnq hT
  have HS := AllLt.start w; go_enter Tryd.func52, Tryd.ntmps52
  go_upto_region 1 with fail
  generalize hw0 : (w.alloc (.cells #[.int .i64 (n : Int), .string s] 26)).alloc (.cells #[.int .i64 0, .map none] 65) = w0 at *
  have hsz : Hid (w0.heap.size = w.heap.size + 1 + 1) := hid (by rw [← hw0, World.size_alloc, World.size_alloc])
  clear hw0
  have q0 := HK0.out.c0
  go_wp2_with fail
  (with_reducible refine (HF.out _).mono ?_)
  rintro e w1 ⟨⟨g, rfl, hg, hfm⟩, hb⟩
  have HG := hid (show w.heap.size + 1 + 1 ≤ g by rw [← hsz.out]; exact hg)
  have hs1 := hb.size
  have HS1 := hid (show w.heap.size + 1 + 1 ≤ w1.heap.size by rw [← hsz.out]; exact hs1)
  have HB1 := hid (HBA.out.trans (hb.mono HBA.out.size))
  have HK1 := hid (HK0.out.below hb HK0.out.lt)
  have HZ1 := hid (HZ0.out.below hb HZ0.out.lt)
  have HFM := hid hfm
  clear hb hg hfm q0 hs1
  go_upto_region 2 with fail
  have HBB := hid ((Below.refl w1.heap.size w1).alloc (Nat.le_refl _) (.cells #[.int .i64 (n : Int), .map (some g)] 65))
  have HP2 := hid (PB.made w1 n g)
  have HK2 := hid (HK1.out.below HBB.out HK1.out.lt)
  have HZ2 := hid (HZ1.out.below HBB.out HZ1.out.lt)
  have HN2 := hid (PN.free n (HFM.out.below HBB.out))
  have HB2 := hid (HB1.out.trans (HBB.out.mono HB1.out.size))
  have HT2 := hid (HTT.out.below HB2.out)
  have HG2 := hid HFM.out.lt
  generalize w1.alloc (.cells #[.int .i64 (n : Int), .map (some g)] 65) = w2 at *
  have q0 := HK2.out.c0
  have q1 := HK2.out.c1
  have p0 := HP2.out.c0
  have p1 := HP2.out.c1
  go_wp2_with fail
  (with_reducible refine (ppairs_any n g h2 w2).mono ?_)
  rintro e w3 ⟨⟨v, rfl, hown⟩, hb⟩
  obtain ⟨pa, pc, rfl, hE⟩ := Pq.of_own hown
  have HE := hid hE
  have HP3 := hid (HP2.out.below hb)
  have HK3 := hid (HK2.out.below hb HK2.out.lt)
  have HZ3 := hid (HZ2.out.below hb HZ2.out.lt)
  have HN3 := hid (HN2.out.below hb)
  have HB3 := hid (HB2.out.trans (hb.mono HB2.out.size))
  have HT3 := hid (HT2.out.below hb)
  have HL2 := hid (show w1.heap.size < w2.heap.size from HP2.out.lt)
  clear hb hown hE p0 p1 q0 q1
  go_wp2_with fail
  go_loopw [32] (fun a wr => ∃ j : Nat, j ≤ (pqL n).length ∧ a = .int .i64 j ∧ Hid (PN wr g n (upF n s ((pqL n).take j))) ∧ Hid (∀ p ∈ (pqL n).take j, 0 ≤ dgI (bt s (p.1 * n + p.2))) ∧ Hid (Wr g w3 wr)) (fun a _ => (pqL n).length - (intOf a).toNat)
  case atStart => exact ⟨0, by omega, rfl, by rw [List.take_zero, upF_0]; exact HN3, hid (by simp), hid (Wr.refl _ _)⟩
  case round =>
    obtain ⟨j, hj, rfl, HN, HD, HW⟩ := hrel
    clear HS
    obtain ⟨wi, rfl⟩ : ∃ wi : World, wi = wr := ⟨_, rfl⟩
    have HPi := hid (HP3.out.wr HW.out (by have := HG2.out; omega))
    have HKi := hid (HK3.out.wr HW.out (by have := HG.out; omega))
    have HZi := hid (HZ3.out.wr HW.out (by have := HG.out; omega))
    have HTi := hid (show TO wi from by
      obtain ⟨t, fr, hh⟩ := HT3.out
      exact ⟨t, fr, (HW.out.block _ (Tb.lt HT3.out) (by have := HTL.out; have := HG.out; omega)).trans hh⟩)
    have HBi := hid (HB3.out.trans (HW.out.below (by have := HG.out; omega) HB3.out.size))
    by_cases hjl : j < (pqL n).length
    · have hdj : decide ((j : Int) < ((pqL n).length : Int)) = true := by simp; omega
      have hdk : decide (j < (pqL n).length) = true := by simp; omega
      obtain ⟨gl, rfl, hl1, hl2, c0, c1⟩ := HE.out j hjl
      have d0 : wi.cell? ⟨gl, j * 2, none⟩ = _ := (HW.out.cell hl2 (by have := HG2.out; have := HL2.out; omega)).trans c0
      have d1 : wi.cell? ⟨gl, j * 2 + 1, none⟩ = _ := (HW.out.cell hl2 (by have := HG2.out; have := HL2.out; omega)).trans c1
      have HTK := hid (pq_take hjl)
      have HPT := hid (pqL_at hjl)
      have HMEM := hid (upF_put n s ((pqL n).take j) ((pqL n).getD j (0, 0)) HPT.out.1)
      clear c0 c1
      generalize (pqL n).getD j (0, 0) = p at *
      obtain ⟨i, k⟩ := p
      have hik : i < k := HPT.out.1
      have hkn : k < n := HPT.out.2
      obtain ⟨x, hx⟩ : ∃ x : Nat, x = i * n := ⟨_, rfl⟩
      have hmul : (i : Int) * (n : Int) = (x : Int) := by rw [hx]; push_cast; rfl
      have hlt : x + k < nn := by rw [hx, ← HNQ.out]; exact pat_lt (by omega) hkn
      have hidx := fun w => bt_idx s (x := x) (k := k) (by rw [HSZ.out]; exact hlt) w
      have HX := hid hx
      clear hx
      simp only at d0 d1
      go_upto_region 7 with fail
      have HBa := hid ((Below.refl wi.heap.size wi).alloc (Nat.le_refl _) (.cells #[.int .i64 (i : Int), .int .i64 (k : Int)] 132))
      have e0 : (wi.alloc (.cells #[.int .i64 (i : Int), .int .i64 (k : Int)] 132)).cell? ⟨wi.heap.size, 0, none⟩ = some (.int .i64 (i : Int)) := by simp [go_sem]
      have e1 : (wi.alloc (.cells #[.int .i64 (i : Int), .int .i64 (k : Int)] 132)).cell? ⟨wi.heap.size, 1, none⟩ = some (.int .i64 (k : Int)) := by simp [go_sem]
      have HP5 := hid (HPi.out.below HBa.out)
      have HK5 := hid (HKi.out.below HBa.out HKi.out.lt)
      have HZ5 := hid (HZi.out.below HBa.out HZi.out.lt)
      have HN5 := hid (HN.out.below HBa.out)
      have HT5 := hid (HTi.out.below HBa.out)
      have HW5 := hid (HW.out.trans (Wr.of_below (q := g) HBa.out))
      have HB5 := hid (HBi.out.trans (HBa.out.mono HBi.out.size))
      generalize wi.alloc (.cells #[.int .i64 (i : Int), .int .i64 (k : Int)] 132) = w5 at *
      have q0 := HK5.out.c0
      have q1 := HK5.out.c1
      have p0 := HP5.out.c0
      have p1 := HP5.out.c1
      by_cases hneg : dgI (bt s (x + k)) < 0
      · have hd : decide (dgI (bt s (x + k)) < 0) = true := by simp; omega
        have HPV := hid (PV_bad (s := s) (i := i) (k := k) (n := n) (by omega) hkn (by rw [← HX.out]; exact hneg))
        have z0 := HZ5.out.c0
        have z1 := HZ5.out.c1
        have zf0 := HZ5.out.fr 0
        have zf1 := HZ5.out.fr 1
        clear hneg
        generalize bt s (x + k) = c at *
        go_wp2_with (first | (go_at_call 105; (with_reducible refine (idx8_any c _).mono ?_); rintro e w' ⟨rfl, rfl⟩))
        refine bodyPost_ret (by simp [results, Tryd.results52, go_sem, *]; try rfl) rfl ?_
        exact ⟨.inl ⟨HPV.out, rfl⟩, (HB5.out.setCell (p := ⟨w.heap.size + 1, 0, none⟩) (by simp) _).setCell (p := ⟨w.heap.size + 1, 1, none⟩) (by simp) _⟩
      · have hd : decide (dgI (bt s (x + k)) < 0) = false := by simp; omega
        have HDN := hid (dgI_nat (c := bt s (x + k)) (by omega))
        have HXX := hid (show pmx n s i k = dgN (bt s (x + k)) by unfold pmx; rw [HX.out])
        have HDD := hid (show ∀ p ∈ (pqL n).take (j + 1), 0 ≤ dgI (bt s (p.1 * n + p.2)) by
          intro q hq
          rw [HTK.out, List.mem_append] at hq
          rcases hq with hq | hq
          · exact HD.out q hq
          · obtain rfl : q = (i, k) := by simpa using hq
            show 0 ≤ dgI (bt s (i * n + k))
            rw [← HX.out]; omega)
        clear hneg
        generalize hc : bt s (x + k) = c at *
        clear hc
        obtain ⟨r, hr⟩ : ∃ r, r = dgN c := ⟨_, rfl⟩
        rw [← hr] at HDN HXX
        have hr8 := HDN.out.1
        have HRE := hid HDN.out.2.2
        rw [HDN.out.2.2] at hd
        clear hr
        go_wp2_with (first | (go_at_call 105; (with_reducible refine (idx8_any c _).mono ?_); rintro e w' ⟨rfl, rfl⟩; rw [HRE.out]))
        (with_reducible refine (pput_any g n _ i k r (by omega) (by omega) (by omega) hr8 _ HN5.out HT5.out).mono ?_)
        rintro e w6 ⟨rfl, hn6, hw6⟩
        have HN6 := hid (show PN w6 g n (upF n s ((pqL n).take (j + 1))) by
          rw [HTK.out, ← HMEM.out]
          show PN w6 g n (putQ _ i k (pmx n s i k))
          rw [HXX.out]; exact hn6)
        have HW6 := hid (HW5.out.trans hw6)
        clear hn6 hw6 q0 q1 p0 p1 e0 e1 d0 d1
        have hln := HLN.out
        go_wp2_with fail
        go_roundw
        case rel => exact ⟨j + 1, by omega, by go_num, HN6, HDD, HW6⟩
        case measure => simp [intOf]; omega
    · obtain rfl : j = (pqL n).length := by omega
      have hdj : decide (((pqL n).length : Int) < ((pqL n).length : Int)) = false := by simp
      rw [List.take_length] at HN HD
      have HOK := hid (upQ_ok (f := pmx n s) h1 h2 fun a b hab hb => (dgI_nat (HD.out (a, b) (pqL_mem.2 ⟨hab, hb⟩))).1)
      have HPV := hid (PV_up (s := s) h1 h2 fun a b hab hb => HD.out (a, b) (pqL_mem.2 ⟨hab, hb⟩))
      have HNN := hid (HN.out.congr (N := upQ (pmx n s)) fun a b hab hb => upF_all (by omega) hb)
      have HPM := hid (fun (hv : PV n s = true) => HNN.out.congr (N := pmx n s) fun a b hab hb => by
        unfold upQ; rw [if_neg (by omega), if_pos hab])
      have HSS := hid (show (pntS n (upQ (pmx n s))).size ≤ 144 by rw [pntS_size, HNQ.out]; exact h144)
      have q0 := HKi.out.c0
      have q1 := HKi.out.c1
      have p0 := HPi.out.c0
      have p1 := HPi.out.c1
      have z0 := HZi.out.c0
      have z1 := HZi.out.c1
      have zf0 := HZi.out.fr 0
      have zf1 := HZi.out.fr 1
      have HRU := hid (fun wx => run_pn (n := n) (m := n) h2 h2 HSS.out (show s.size ≤ 144 by rw [HSZ.out]; exact h144) wx)
      cases hts : decide (pntS n (upQ (pmx n s)) = s)
      all_goals
        have HTS := hid hts
        have hrun : ∀ wx : World, (Op.equalIn 10000 26 (.agg #[.int .i64 (n : Int), .string (pntS n (upQ (pmx n s)))]) (.agg #[.int .i64 (n : Int), .string s])).run Tryd.prog wx = .ok _ wx := fun wx => (HRU.out wx).trans (by rw [show decide (n = n ∧ pntS n (upQ (pmx n s)) = s) = decide (pntS n (upQ (pmx n s)) = s) by simp, HTS.out])
        clear hts
        go_wp2_with fail
        go_region_held3 (fun wx => wx.cell? ⟨w1.heap.size, 0, none⟩ = some (.int .i64 (n : Int)) ∧ wx.cell? ⟨w1.heap.size, 1, none⟩ = some (.map (some g)) ∧ wx.cell? ⟨w.heap.size, 0, none⟩ = some (.int .i64 (n : Int)) ∧ wx.cell? ⟨w.heap.size, 1, none⟩ = some (.string s)) (first | exact ⟨p0, p1, q0, q1⟩ | exact ⟨by rw [HX.cell (p := ⟨w1.heap.size, 0, none⟩) HPi.out.lt]; exact p0, by rw [HX.cell (p := ⟨w1.heap.size, 1, none⟩) HPi.out.lt]; exact p1, by rw [HX.cell (p := ⟨w.heap.size, 0, none⟩) HKi.out.lt]; exact q0, by rw [HX.cell (p := ⟨w.heap.size, 1, none⟩) HKi.out.lt]; exact q1⟩)
          (first | (go_at_call 62; (with_reducible refine (pnet_any n g _ HOK.out _ (HNN.out.below (by go_grown)) (HTi.out.below (by go_grown))).mono ?_); rintro e w5 ⟨rfl, hb'⟩; obtain ⟨HX, hz0', hz', hc', hf'⟩ := bst (w0 := wi) (by go_grown) hb'; clear hb' hf' hc' hz' hz0') | fail)
      all_goals
        have HZ6 := HZi.out.below HX HZi.out.lt
        have HP6 := HPi.out.below HX
        have y0 := HZ6.c0
        have y1 := HZ6.c1
        have yf0 := HZ6.fr 0
        have yf1 := HZ6.fr 1
        have x0 := HP6.c0
        have x1 := HP6.c1
        have HB6 := hid (HBi.out.trans (HX.mono HBi.out.size))
        have HN6 := hid (fun hv => (HPM.out hv).below HX)
        clear HZ6 HP6 HX
        go_wp2_with fail
        refine bodyPost_ret (by simp [results, Tryd.results52, go_sem, *]; try rfl) rfl ?_
      · exact ⟨.inl ⟨by rw [HPV.out]; exact HTS.out, rfl⟩, (HB6.out.setCell (p := ⟨w.heap.size + 1, 0, none⟩) (by simp) _).setCell (p := ⟨w.heap.size + 1, 1, none⟩) (by simp) _⟩
      · have hpv : PV n s = true := by rw [HPV.out]; exact HTS.out
        have hb0 := Wr.setCell w5 (w.heap.size + 1) 0 (.int .i64 (n : Int))
        have hb1 := Wr.setCell (w5.setCell ⟨w.heap.size + 1, 0, none⟩ (.int .i64 (n : Int))) (w.heap.size + 1) 1 (.map (some g))
        exact ⟨.inr ⟨hpv, g, rfl, by have := HG.out; omega, (HN6.out hpv).wr (hb0.trans hb1) (by have := HG.out; omega)⟩, (HB6.out.setCell (p := ⟨w.heap.size + 1, 0, none⟩) (by simp) _).setCell (p := ⟨w.heap.size + 1, 1, none⟩) (by simp) _⟩
/-- reading a network of points that is not valid -/
theorem pof_no (z : Int) (s : ByteArray) (h : PV z s = false) (w : World) (hT : TO w) :
    Calls Tryd.prog 52 #[.agg #[.int .i64 z, .string s]] w fun e w' => e = .returned (.tuple #[.agg #[.int .i64 0, .map none], .bool false]) ∧ Below w.heap.size w w' := by
  by_cases hz : 1 ≤ z ∧ z ≤ 12
  · obtain ⟨n, rfl⟩ : ∃ n : Nat, z = n := ⟨z.toNat, by omega⟩
    by_cases hs : s.size = n * n
    · refine (pof_main n s (by omega) (by omega) hs w hT).mono ?_
      rintro e w' ⟨h1, h2⟩
      rcases h1 with ⟨_, h1⟩ | ⟨h1, _⟩
      · exact ⟨h1, h2⟩
      · rw [h] at h1; cases h1
    · exact pof_len n s (by omega) (by omega) hs w
  · exact pofOff_any z s hz w
/-- .. and one that is -/
theorem pof_yes (n : Nat) (N : Nat → Nat → Nat) (hN : OkP n N) (w : World) (hT : TO w) :
    Calls Tryd.prog 52 #[.agg #[.int .i64 (n : Int), .string (pntS n N)]] w fun e w' => (∃ g, e = .returned (.tuple #[.agg #[.int .i64 (n : Int), .map (some g)], .bool true]) ∧ w.heap.size ≤ g ∧ PN w' g n N) ∧ Below w.heap.size w w' := by
  refine (pof_main n (pntS n N) hN.one hN.le (pntS_size n N) w hT).mono ?_
  rintro e w' ⟨h1, h2⟩
  rcases h1 with ⟨h1, _⟩ | ⟨_, g, h3, h4, h5⟩
  · rw [PV_pnt hN] at h1; cases h1
  · exact ⟨⟨g, h3, h4, h5.congr fun a b hab hb => pmx_pnt hN (by omega) hb⟩, h2⟩
theorem iPointNetValid_any (z : Int) (s : ByteArray) (w : World) (hT : TO w) :
    Calls Tryd.prog 18 #[.agg #[.int .i64 z, .string s]] w fun e w' => e = .returned (.bool (PV z s)) ∧ Below w.heap.size w w' := by
  have HT := hid (hT.below ((Below.refl w.heap.size w).alloc (Nat.le_refl _) (.cells #[.int .i64 z, .string s] 26)))
  clear hT
  rcases PV_cases z s with h | ⟨n, N, hN, rfl, rfl⟩
  · have HC := hid (pof_no z s h _ HT.out)
    have HV := hid h
    clear h
    have HS := AllLt.start w; have hn2 := lt2; have hn3 := lt3; have hn4 := lt4; go_enter Tryd.func18, Tryd.ntmps18
    go_wp2_with (first | (go_at_call 52; (with_reducible refine (HC.out).mono ?_); rintro e w' ⟨rfl, hb⟩; obtain ⟨HB, hz0, hz, hc, hf⟩ := bst (w0 := w) (by go_grown) hb; clear hb; (try simp at hz); (first | ((refine HS.g5 (m := w'.heap.size) ?_ ?_); (focus omega); intro HS) | ((refine HS.g4 (m := w'.heap.size) ?_ ?_); (focus omega); intro HS) | ((refine HS.g3 (m := w'.heap.size) ?_ ?_); (focus omega); intro HS) | ((refine HS.g2 (m := w'.heap.size) ?_ ?_); (focus omega); intro HS) | ((refine HS.g1 (m := w'.heap.size) ?_ ?_); (focus omega); intro HS) | ((refine HS.g0 (m := w'.heap.size) ?_ ?_); (focus omega); intro HS)); have HU := HS; simp only [AllLt] at HU))
    go_ret
    exact ⟨ret_bool HV.out.symm, by (repeat' (first | (with_reducible exact Below.refl _ _) | (with_reducible refine Below.setCell ?_ ?_ _) | (with_reducible refine below_drewN' ?_ _) | (with_reducible refine below_drew' ?_) | (with_reducible refine Below.alloc ?_ ?_ _) | (with_reducible assumption) | go_size))⟩
  · have HC := hid (pof_yes n N hN _ HT.out)
    have HV := hid (PV_pnt hN)
    generalize pntS n N = s at *
    have HS := AllLt.start w; have hn2 := lt2; have hn3 := lt3; have hn4 := lt4; go_enter Tryd.func18, Tryd.ntmps18
    go_wp2_with fail
    (with_reducible refine HC.out.mono ?_)
    rintro e w1 ⟨⟨g, rfl, _, _⟩, hb⟩
    obtain ⟨HB, hz0, hz, hc, hf⟩ := bst (w0 := w) (by go_grown) hb; clear hb; (try simp at hz); (first | ((refine HS.g5 (m := w1.heap.size) ?_ ?_); (focus omega); intro HS) | ((refine HS.g4 (m := w1.heap.size) ?_ ?_); (focus omega); intro HS) | ((refine HS.g3 (m := w1.heap.size) ?_ ?_); (focus omega); intro HS) | ((refine HS.g2 (m := w1.heap.size) ?_ ?_); (focus omega); intro HS) | ((refine HS.g1 (m := w1.heap.size) ?_ ?_); (focus omega); intro HS) | ((refine HS.g0 (m := w1.heap.size) ?_ ?_); (focus omega); intro HS)); have HU := HS; simp only [AllLt] at HU
    go_wp2_with fail
    go_ret
    exact ⟨ret_bool HV.out.symm, by (repeat' (first | (with_reducible exact Below.refl _ _) | (with_reducible refine Below.setCell ?_ ?_ _) | (with_reducible refine below_drewN' ?_ _) | (with_reducible refine below_drew' ?_) | (with_reducible refine Below.alloc ?_ ?_ _) | (with_reducible assumption) | go_size))⟩
end Go.Proofs.YtmdgkhebefnfeaaDoor.C
