/- The program's table of compositions, and what a third node leaves of a relation. -/
import Derived.Test.YtholffjadnaloaaDoorCmpS
import Derived.Test.YtholffjadnaloaaDoorNetV
import Derived.Test.YtholffjadnaloaaDoorCloP
import Derived.Test.YtholffjadnaloaaDoorDraw
namespace Go.Proofs.YtholffjadnaloaaDoor.C
open Go.RowKit
set_option linter.unusedVariables false
set_option linter.unusedSimpArgs false
def cpV (L : Nat → Nat) : Array Value := ((List.range 169).map fun x => Value.int .i64 ((L x : Nat) : Int)).toArray
/-- The table under way: 169 relations in block o. -/
def CB (w : World) (o : Nat) (L : Nat → Nat) : Prop := w.heap[o]? = some (.cells (cpV L) 140 (0, 0))
section
variable {w w' : World} {o : Nat} {L : Nat → Nat}
theorem CB.lt (h : CB w o L) : o < w.heap.size := (Array.getElem?_eq_some_iff.1 h).1
theorem CB.cell (h : CB w o L) {x : Nat} (hx : x < 169) : w.cell? ⟨o, x, none⟩ = some (.int .i64 ((L x : Nat) : Int)) := by
  rw [cell_of_row w o _ _ _ _ h]; simp [cpV, hx]
theorem CB.frozen (h : CB w o L) (x : Nat) : w.frozen? ⟨o, x, none⟩ = false := frozen_of_row w o x _ _ h
theorem CB.below (h : CB w o L) (hb : Below w.heap.size w w') : CB w' o L := (hb.block o h.lt).trans h
theorem CB.set (h : CB w o L) {x : Nat} (hx : x < 169) (r : Nat) : CB (w.setCell ⟨o, x, none⟩ (.int .i64 ((r : Nat) : Int))) o (fun y => if y = x then r else L y) := by
  unfold CB
  rw [heap_setCell_same w o _ _ _ _ h]
  congr 2
  apply Array.ext_getElem?
  intro j
  rw [Array.getElem?_setIfInBounds]
  by_cases e : x = j
  · subst e
    simp [cpV, hx]
  · rw [if_neg e]
    by_cases hj : j < 169
    · simp [cpV, hj, show ¬ j = x from fun h => e h.symm]
    · rw [Array.getElem?_eq_none (by simp [cpV]; omega), Array.getElem?_eq_none (by simp [cpV]; omega)]
theorem CB.congr (h : CB w o L) {M : Nat → Nat} (e : L = M) : CB w o M := by rw [← e]; exact h
end
def cpL (m x : Nat) : Nat := if x < m then cmL.getD x 0 else 0
theorem cpL_0 : cpL 0 = fun _ => 0 := by funext x; simp [cpL]
theorem cpL_set (m : Nat) : (fun y => if y = m then cmL.getD m 0 else cpL m y) = cpL (m + 1) := by
  funext y
  unfold cpL
  by_cases e : y = m
  · subst e; simp
  · rw [if_neg e]
    by_cases h : y < m
    · rw [if_pos h, if_pos (by omega)]
    · rw [if_neg h, if_neg (by omega)]
theorem CB.tc {w : World} {o : Nat} (h : CB w o (cpL 169)) : TC w o := fun x hx => by rw [h.cell hx]; simp [cpL, hx]
set_option maxRecDepth 100000 in
theorem cpV_zero : cpV (fun _ => 0) = Tryd.zeroCells140 := by kernel_rfl
section
variable {ops : Array Oper} {rest : List Oper} {o : Oper} {a : Act} {w : World} {Q : Exit → Act → World → Prop}
theorem al_cp (hgd : o.guard = none) (ho : o.op = .alloc 140)
    (h : wpList Tryd.prog ops Q rest (a.put o.dst (.pointer (some ⟨w.heap.size, 0, none⟩))) (w.alloc (.cells (cpV fun _ => 0) 140))) : wpList Tryd.prog ops Q (o :: rest) a w := by
  refine Great.wpList_allocTo hgd o.dst rfl (.pointer (some ⟨w.heap.size, 0, none⟩)) (.cells (cpV fun _ => 0) 140) ?_ h
  obtain ⟨op, dst⟩ := o
  simp only at ho
  subst ho
  rw [cpV_zero]
  simp [execOp, go_sem, Tryd.zeroValue140]
end
set_option maxHeartbeats 4000000 in
set_option maxRecDepth 100000 in
theorem allComp_any (w : World) (hT : TB w) :
    Calls Tryd.prog 69 #[] w fun e w' => (∃ o, e = .returned (.pointer (some ⟨o, 0, none⟩)) ∧ w.heap.size ≤ o ∧ CB w' o (cpL 169)) ∧ Below w.heap.size w w' := by
  have HT := hid hT
  have H0 := hid (show CB (w.alloc (.cells (cpV fun _ => 0) 140)) w.heap.size (cpL (13 * 0 + 0)) by
    rw [show 13 * 0 + 0 = 0 from rfl, cpL_0]; exact heap_alloc_new w _)
  have HB0 := hid ((Below.refl w.heap.size w).alloc (Nat.le_refl _) (.cells (cpV fun _ => 0) 140))
  have HZ0 := hid (show w.heap.size < (w.alloc (.cells (cpV fun _ => 0) 140)).heap.size by simp)
  clear hT
  have HS := AllLt.start w; go_enter Tryd.func69, Tryd.ntmps69
  go_upto_region 2 with (refine al_cp rfl rfl ?_)
  generalize w.alloc (.cells (cpV fun _ => 0) 140) = w2 at *
  go_wp2_with fail
  go_loopw [4] (fun v wr => ∃ i : Nat, i ≤ 13 ∧ v = .int .i64 i ∧ Hid (CB wr w.heap.size (cpL (13 * i + 0))) ∧ Hid (Below w.heap.size w wr)) (fun v _ => 13 - (intOf v).toNat)
  case atStart => exact ⟨0, by omega, rfl, H0, HB0⟩
  case round =>
    obtain ⟨i, hi, rfl, HC, HB⟩ := hrel
    clear HS
    by_cases h13 : i < 13
    · have hdi : decide ((i : Int) < 13) = true := by simp; omega
      go_wp2_with fail
      go_loopw [7] (fun v wr => ∃ k : Nat, k ≤ 13 ∧ v = .int .i64 k ∧ Hid (CB wr w.heap.size (cpL (13 * i + k))) ∧ Hid (Below w.heap.size w wr)) (fun v _ => 13 - (intOf v).toNat)
      case atStart => exact ⟨0, by omega, rfl, HC, HB⟩
      case round =>
        obtain ⟨k, hk, rfl, HC2, HB2⟩ := hrel
        obtain ⟨wi, rfl⟩ : ∃ wi : World, wi = wr := ⟨_, rfl⟩
        by_cases k13 : k < 13
        · have hdk : decide ((k : Int) < 13) = true := by simp; omega
          have i0 : (0 : Int) ≤ (i : Int) := by omega
          have i6 : (i : Int) < 13 := by omega
          have k0 : (0 : Int) ≤ (k : Int) := by omega
          have k6 : (k : Int) < 13 := by omega
          have hx : i * 13 + k < 169 := by omega
          have HM := hid (show ∀ w', CB w' w.heap.size (cpL (13 * i + k)) → CB (w'.setCell ⟨w.heap.size, i * 13 + k, none⟩ (.int .i64 ((cmT i k : Nat) : Int))) w.heap.size (cpL (13 * i + (k + 1))) from fun w' h => by
            have h2 := h.set hx (cmT i k)
            rw [show (fun y => if y = i * 13 + k then cmT i k else cpL (13 * i + k) y) = cpL (13 * i + (k + 1)) by
              rw [show 13 * i + (k + 1) = (13 * i + k) + 1 by omega, ← cpL_set, show i * 13 + k = 13 * i + k by omega]; rfl] at h2
            exact h2)
          have HTi := hid (HT.out.below HB2.out)
          have HTd := hid (show TB wi.drew from HTi.out.below (Below.refl wi.heap.size wi).drew)
          have d0 := HC2.out.cell hx
          have df := HC2.out.frozen (i * 13 + k)
          have hlo := HC2.out.lt
          go_wp2_with fail
          go_region_with (first | (go_at_call 113; (with_reducible refine (bthen_any i k h13 k13 _ HTd.out).mono ?_); rintro e w4 ⟨rfl, hb⟩; have hb : Below wi.heap.size wi w4 := (Below.refl wi.heap.size wi).drew.trans hb; have c5 := (hb.cell (p := ⟨w.heap.size, i * 13 + k, none⟩) hlo).trans d0; have f5 := (hb.frozen (p := ⟨w.heap.size, i * 13 + k, none⟩) hlo).trans df; have HCx := hid (HC2.out.below hb); have HBx := hid (HB2.out.trans (hb.mono HB2.out.size)); clear hb) | fail)
          all_goals
            go_wp2_with fail
            go_roundw
            case rel => exact ⟨k + 1, by omega, by go_num, hid (HM.out _ HCx.out), hid (HBx.out.setCell (p := ⟨w.heap.size, i * 13 + k, none⟩) (Nat.le_refl _) _)⟩
            case measure => simp [intOf]; omega
        · obtain rfl : k = 13 := by omega
          have hdk : decide (((13 : Nat) : Int) < 13) = false := by simp
          have HC3 := hid (show CB wi w.heap.size (cpL (13 * (i + 1) + 0)) from HC2.out.congr (by rw [show 13 * (i + 1) + 0 = 13 * i + 13 by omega]))
          go_wp2_with fail
          go_roundw
          case rel => exact ⟨i + 1, by omega, by go_num, HC3, HB2⟩
          case measure => simp [intOf]; omega
    · obtain rfl : i = 13 := by omega
      have hdi : decide (((13 : Nat) : Int) < 13) = false := by simp
      go_wp2_with fail
      go_ret
      exact ⟨⟨_, rfl, Nat.le_refl _, HC.out⟩, HB.out⟩
set_option maxHeartbeats 2000000 in
set_option maxRecDepth 100000 in
theorem of_any (o r s : Nat) (hr : r < 8192) (hs : s < 8192) (w : World) (hC : TC w o) :
    Calls Tryd.prog 116 #[.pointer (some ⟨o, 0, none⟩), .int .i64 r, .int .i64 s] w fun e w' => e = .returned (.int .i64 ((cmN r s : Nat) : Int)) ∧ w = w' := by
  have HC := hid hC
  clear hC
  have HS := AllLt.start w; go_enter Tryd.func116, Tryd.ntmps116
  go_wp2
  go_loop [7, 10] (fun acc v => ∃ i : Nat, i ≤ 13 ∧ v = .int .i64 i ∧ acc = .int .i64 ((cmF r s i : Nat) : Int)) (fun _ v => 13 - (intOf v).toNat)
  case atStart => exact ⟨0, by omega, rfl, rfl⟩
  case round =>
    obtain ⟨i, hi, rfl, rfl⟩ := hrel
    clear HS
    by_cases h13 : i < 13
    · have hdi : decide ((i : Int) < 13) = true := by simp; omega
      cases h1 : r.testBit i
      · have HF := hid (show cmF r s (i + 1) = cmF r s i by simp [cmF, orN, cmI_miss1 h1])
        have H1 := hid h1
        clear h1
        go_wp2_with (first | (go_at_call 124; (with_reducible refine (rhas_any r i hr h13 _).mono ?_); rintro e w' ⟨rfl, rfl⟩; rw [H1.out]))
        go_round
        case rel => exact ⟨i + 1, by omega, by go_num, by rw [HF.out]⟩
        case measure => simp [intOf]; omega
      · have H1 := hid h1
        clear h1
        go_wp2_with (first | (go_at_call 124; (with_reducible refine (rhas_any r i hr h13 _).mono ?_); rintro e w' ⟨rfl, rfl⟩; rw [H1.out]))
        go_loop [7, 17] (fun acc v => ∃ k : Nat, k ≤ 13 ∧ v = .int .i64 k ∧ acc = .int .i64 ((cmF r s i ||| cmI r s i k : Nat) : Int)) (fun _ v => 13 - (intOf v).toNat)
        case atStart => exact ⟨0, by omega, rfl, by simp [cmI, orN]⟩
        case round =>
          obtain ⟨k, hk, rfl, rfl⟩ := hrel
          by_cases k13 : k < 13
          · have hdk : decide ((k : Int) < 13) = true := by simp; omega
            cases h2 : s.testBit k
            · have HF := hid (show cmF r s i ||| cmI r s i (k + 1) = cmF r s i ||| cmI r s i k by rw [cmI_miss2 h2])
              have H2 := hid h2
              clear h2
              go_wp2_with (first | (go_at_call 124; (with_reducible refine (rhas_any s k hs k13 _).mono ?_); rintro e w' ⟨rfl, rfl⟩; rw [H2.out]))
              go_round
              case rel => exact ⟨k + 1, by omega, by go_num, by rw [HF.out]⟩
              case measure => simp [intOf]; omega
            · have HF := hid ((i64_or _ _ (or_lt (cmF_lt (r := r) (s := s) hi) (cmI_lt (r := r) (s := s) h13 hk)) (cmT_lt h13 k13)).trans (congrArg _ (show _ = cmF r s i ||| cmI r s i (k + 1) by rw [cmI_hit H1.out h2, Nat.or_assoc])))
              have H2 := hid h2
              have hx : i * 13 + k < 169 := by omega
              have i0 : (0 : Int) ≤ (i : Int) := by omega
              have i6 : (i : Int) < 13 := by omega
              have k0 : (0 : Int) ≤ (k : Int) := by omega
              have k6 : (k : Int) < 13 := by omega
              have c0 : w.cell? ⟨o, i * 13 + k, none⟩ = some (.int .i64 ((cmT i k : Nat) : Int)) := by
                have := HC.out _ hx
                rw [show i * 13 + k = 13 * i + k by omega] at this ⊢
                exact this
              clear h2
              go_wp2_with (first | (go_at_call 124; (with_reducible refine (rhas_any s k hs k13 _).mono ?_); rintro e w' ⟨rfl, rfl⟩; rw [H2.out]))
              go_round
              case rel => exact ⟨k + 1, by omega, by go_num, ret_val HF.out⟩
              case measure => simp [intOf]; omega
          · obtain rfl : k = 13 := by omega
            have hdk : decide (((13 : Nat) : Int) < 13) = false := by simp
            go_wp2
            go_round
            case rel => exact ⟨i + 1, by omega, by go_num, rfl⟩
            case measure => simp [intOf]; omega
    · obtain rfl : i = 13 := by omega
      have hdi : decide (((13 : Nat) : Int) < 13) = false := by simp
      go_wp2
      go_ret
      exact ⟨rfl, rfl⟩
set_option maxHeartbeats 2000000 in
set_option maxRecDepth 100000 in
theorem triangle_any (o n : Nat) (R : Nat → Nat → Nat) (hR : ∀ i k, R i k < 8192) (i k b : Nat) (hi : i < 6) (hk : k < 6) (hb : b < 6) (w : World) (hC : TC w o) (ho : o < w.heap.size) :
    Calls Tryd.prog 72 #[.agg (netV n R), .pointer (some ⟨o, 0, none⟩), .int .i64 i, .int .i64 k, .int .i64 b] w fun e w' => e = .returned (.int .i64 ((triN R i k b : Nat) : Int)) ∧ Below w.heap.size w w' := by
  have HN := NB.made w n R
  have HB := hid ((Below.refl w.heap.size w).alloc (Nat.le_refl _) (.cells (netV n R) 70))
  have HC := hid (show TC (w.alloc (.cells (netV n R) 70)) o from fun x hx => (HB.out.cell (p := ⟨o, x, none⟩) ho).trans (hC x hx))
  have c1 := HN.cell hi hk
  have c2 := HN.cell hi hb
  have c3 := HN.cell hb hk
  have i0 : (0 : Int) ≤ (i : Int) := by omega
  have i6 : (i : Int) < 6 := by omega
  have k0 : (0 : Int) ≤ (k : Int) := by omega
  have k6 : (k : Int) < 6 := by omega
  have b0 : (0 : Int) ≤ (b : Int) := by omega
  have b6 : (b : Int) < 6 := by omega
  have HV := hid (i64_and (R i k) (cmN (R i b) (R b k)) (hR i k) (cmN_lt _ _))
  have H1 := hid (hR i b)
  have H2 := hid (hR b k)
  clear HN hC ho hR
  have HS := AllLt.start w; go_enter Tryd.func72, Tryd.ntmps72
  go_upto_region 1 with fail
  generalize w.alloc (.cells (netV n R) 70) = w2 at *
  have HOF := hid (fun m => of_any o (R i b) (R b k) H1.out H2.out (w2.drewN m) HC.out)
  go_quiet (first | (go_at_call 116; with_reducible exact Calls.quiet_of_same ((HOF.out _).mono fun _ _ ⟨a, b⟩ => ⟨a, b.symm⟩)))
  go_wp2
  go_ret
  exact ⟨ret_int HV.out, below_drewN' HB.out _⟩
end Go.Proofs.YtholffjadnaloaaDoor.C
