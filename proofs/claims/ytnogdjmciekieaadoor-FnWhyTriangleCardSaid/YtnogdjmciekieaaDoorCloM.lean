/- The program's table of compositions, and what a third node leaves of a relation. The program: which node leaves less, all pairs, whether a network is closed. The program: TriangleRel, WhyTriangle, IsClosed. -/
import Derived.Test.YtnogdjmciekieaaDoorCmpS
import Derived.Test.YtnogdjmciekieaaDoorNetV
import Derived.Test.YtnogdjmciekieaaDoorCloP
import Derived.Test.YtnogdjmciekieaaDoorInts
import Derived.Test.YtnogdjmciekieaaDoorCloA
import Derived.Deep.RegionHeld3
import Derived.Test.YtnogdjmciekieaaDoorNetC
namespace Go.Proofs.YtnogdjmciekieaaDoor.C
section
open Go.RowKit
set_option linter.unusedVariables false
set_option linter.unusedSimpArgs false
def cpV (L : Nat → Nat) : Array Value := ((List.range 169).map fun x => Value.int .i64 ((L x : Nat) : Int)).toArray
/-- The table under way: 169 relations in block o. -/
def CB (w : World) (o : Nat) (L : Nat → Nat) : Prop := w.heap[o]? = some (.cells (cpV L) 131 (0, 0))
section
variable {w w' : World} {o : Nat} {L : Nat → Nat}
theorem CB.lt (h : CB w o L) : o < w.heap.size := (Array.getElem?_eq_some_iff.1 h).1
theorem CB.cell (h : CB w o L) {x : Nat} (hx : x < 169) : w.cell? ⟨o, x, none⟩ = some (.int .i64 ((L x : Nat) : Int)) := by
  rw [cell_of_row w o _ _ _ _ h]; simp [cpV, hx]
theorem CB.frozen (h : CB w o L) (x : Nat) : w.frozen? ⟨o, x, none⟩ = false := frozen_of_row w o x _ _ h
theorem CB.below (h : CB w o L) (hb : Below w.heap.size w w') : CB w' o L := (hb.block o h.lt).trans h
theorem CB.set (h : CB w o L) {x : Nat} (hx : x < 169) (r : Nat) : CB (w.setCell ⟨o, x, none⟩ (.int .i64 ((r : Nat) : Int))) o (fun y => if y = x then r else L y) := by
  unfold CB
  rw [heap_setCell_same w o _ _ _ _ h]
  congr 2
  apply Array.ext_getElem?
  intro j
  rw [Array.getElem?_setIfInBounds]
  by_cases e : x = j
  · subst e
    simp [cpV, hx]
  · rw [if_neg e]
    by_cases hj : j < 169
    · simp [cpV, hj, show ¬ j = x from fun h => e h.symm]
    · rw [Array.getElem?_eq_none (by simp [cpV]; omega), Array.getElem?_eq_none (by simp [cpV]; omega)]
theorem CB.congr (h : CB w o L) {M : Nat → Nat} (e : L = M) : CB w o M := by rw [← e]; exact h
end
def cpL (m x : Nat) : Nat := if x < m then cmL.getD x 0 else 0
theorem cpL_0 : cpL 0 = fun _ => 0 := by funext x; simp [cpL]
theorem cpL_set (m : Nat) : (fun y => if y = m then cmL.getD m 0 else cpL m y) = cpL (m + 1) := by
  funext y
  unfold cpL
  by_cases e : y = m
  · subst e; simp
  · rw [if_neg e]
    by_cases h : y < m
    · rw [if_pos h, if_pos (by omega)]
    · rw [if_neg h, if_neg (by omega)]
theorem CB.tc {w : World} {o : Nat} (h : CB w o (cpL 169)) : TC w o := fun x hx => by rw [h.cell hx]; simp [cpL, hx]
set_option maxRecDepth 100000 in
theorem cpV_zero : cpV (fun _ => 0) = Tryd.zeroCells131 := by kernel_rfl
section
variable {ops : Array Oper} {rest : List Oper} {o : Oper} {a : Act} {w : World} {Q : Exit → Act → World → Prop}
theorem al_cp (hgd : o.guard = none) (ho : o.op = .alloc 131)
    (h : wpList Tryd.prog ops Q rest (a.put o.dst (.pointer (some ⟨w.heap.size, 0, none⟩))) (w.alloc (.cells (cpV fun _ => 0) 131))) : wpList Tryd.prog ops Q (o :: rest) a w := by
  refine Great.wpList_allocTo hgd o.dst rfl (.pointer (some ⟨w.heap.size, 0, none⟩)) (.cells (cpV fun _ => 0) 131) ?_ h
  obtain ⟨op, dst⟩ := o
  simp only at ho
  subst ho
  rw [cpV_zero]
  simp [execOp, go_sem, Tryd.zeroValue131]
end
set_option maxHeartbeats 4000000 in
set_option maxRecDepth 100000 in
theorem allComp_any (w : World) (hT : TB w) :
    Calls Tryd.prog 52 #[] w fun e w' => (∃ o, e = .returned (.pointer (some ⟨o, 0, none⟩)) ∧ w.heap.size ≤ o ∧ CB w' o (cpL 169)) ∧ Below w.heap.size w w' := by
  have HT := hid hT
  have H0 := hid (show CB (w.alloc (.cells (cpV fun _ => 0) 131)) w.heap.size (cpL (13 * 0 + 0)) by
    rw [show 13 * 0 + 0 = 0 from rfl, cpL_0]; exact heap_alloc_new w _)
  have HB0 := hid ((Below.refl w.heap.size w).alloc (Nat.le_refl _) (.cells (cpV fun _ => 0) 131))
  have HZ0 := hid (show w.heap.size < (w.alloc (.cells (cpV fun _ => 0) 131)).heap.size by simp)
  clear hT
  have HS := AllLt.start w; go_enter Tryd.func52, Tryd.ntmps52
  go_upto_region 2 with (refine al_cp rfl rfl ?_)
  generalize w.alloc (.cells (cpV fun _ => 0) 131) = w2 at *
  go_wp2_with fail
  go_loopw [4] (fun v wr => ∃ i : Nat, i ≤ 13 ∧ v = .int .i64 i ∧ Hid (CB wr w.heap.size (cpL (13 * i + 0))) ∧ Hid (Below w.heap.size w wr)) (fun v _ => 13 - (intOf v).toNat)
  case atStart => exact ⟨0, by omega, rfl, H0, HB0⟩
  case round =>
    obtain ⟨i, hi, rfl, HC, HB⟩ := hrel
    clear HS
    by_cases h13 : i < 13
    · have hdi : decide ((i : Int) < 13) = true := by simp; omega
      go_wp2_with fail
      go_loopw [7] (fun v wr => ∃ k : Nat, k ≤ 13 ∧ v = .int .i64 k ∧ Hid (CB wr w.heap.size (cpL (13 * i + k))) ∧ Hid (Below w.heap.size w wr)) (fun v _ => 13 - (intOf v).toNat)
      case atStart => exact ⟨0, by omega, rfl, HC, HB⟩
      case round =>
        obtain ⟨k, hk, rfl, HC2, HB2⟩ := hrel
        obtain ⟨wi, rfl⟩ : ∃ wi : World, wi = wr := ⟨_, rfl⟩
        by_cases k13 : k < 13
        · have hdk : decide ((k : Int) < 13) = true := by simp; omega
          have i0 : (0 : Int) ≤ (i : Int) := by omega
          have i6 : (i : Int) < 13 := by omega
          have k0 : (0 : Int) ≤ (k : Int) := by omega
          have k6 : (k : Int) < 13 := by omega
          have hx : i * 13 + k < 169 := by omega
          have HM := hid (show ∀ w', CB w' w.heap.size (cpL (13 * i + k)) → CB (w'.setCell ⟨w.heap.size, i * 13 + k, none⟩ (.int .i64 ((cmT i k : Nat) : Int))) w.heap.size (cpL (13 * i + (k + 1))) from fun w' h => by
            have h2 := h.set hx (cmT i k)
            rw [show (fun y => if y = i * 13 + k then cmT i k else cpL (13 * i + k) y) = cpL (13 * i + (k + 1)) by
              rw [show 13 * i + (k + 1) = (13 * i + k) + 1 by omega, ← cpL_set, show i * 13 + k = 13 * i + k by omega]; rfl] at h2
            exact h2)
          have HTi := hid (HT.out.below HB2.out)
          have HTd := hid (show TB wi.drew from HTi.out.below (Below.refl wi.heap.size wi).drew)
          have d0 := HC2.out.cell hx
          have df := HC2.out.frozen (i * 13 + k)
          have hlo := HC2.out.lt
          go_wp2_with fail
          go_region_with (first | (go_at_call 83; (with_reducible refine (bthen_any i k h13 k13 _ HTd.out).mono ?_); rintro e w4 ⟨rfl, hb⟩; have hb : Below wi.heap.size wi w4 := (Below.refl wi.heap.size wi).drew.trans hb; have c5 := (hb.cell (p := ⟨w.heap.size, i * 13 + k, none⟩) hlo).trans d0; have f5 := (hb.frozen (p := ⟨w.heap.size, i * 13 + k, none⟩) hlo).trans df; have HCx := hid (HC2.out.below hb); have HBx := hid (HB2.out.trans (hb.mono HB2.out.size)); clear hb) | fail)
          all_goals
            go_wp2_with fail
            go_roundw
            case rel => exact ⟨k + 1, by omega, by go_num, hid (HM.out _ HCx.out), hid (HBx.out.setCell (p := ⟨w.heap.size, i * 13 + k, none⟩) (Nat.le_refl _) _)⟩
            case measure => simp [intOf]; omega
        · obtain rfl : k = 13 := by omega
          have hdk : decide (((13 : Nat) : Int) < 13) = false := by simp
          have HC3 := hid (show CB wi w.heap.size (cpL (13 * (i + 1) + 0)) from HC2.out.congr (by rw [show 13 * (i + 1) + 0 = 13 * i + 13 by omega]))
          go_wp2_with fail
          go_roundw
          case rel => exact ⟨i + 1, by omega, by go_num, HC3, HB2⟩
          case measure => simp [intOf]; omega
    · obtain rfl : i = 13 := by omega
      have hdi : decide (((13 : Nat) : Int) < 13) = false := by simp
      go_wp2_with fail
      go_ret
      exact ⟨⟨_, rfl, Nat.le_refl _, HC.out⟩, HB.out⟩
set_option maxHeartbeats 2000000 in
set_option maxRecDepth 100000 in
theorem of_any (o r s : Nat) (hr : r < 8192) (hs : s < 8192) (w : World) (hC : TC w o) :
    Calls Tryd.prog 86 #[.pointer (some ⟨o, 0, none⟩), .int .i64 r, .int .i64 s] w fun e w' => e = .returned (.int .i64 ((cmN r s : Nat) : Int)) ∧ w = w' := by
  have HC := hid hC
  clear hC
  have HS := AllLt.start w; go_enter Tryd.func86, Tryd.ntmps86
  go_wp2
  go_loop [7, 10] (fun acc v => ∃ i : Nat, i ≤ 13 ∧ v = .int .i64 i ∧ acc = .int .i64 ((cmF r s i : Nat) : Int)) (fun _ v => 13 - (intOf v).toNat)
  case atStart => exact ⟨0, by omega, rfl, rfl⟩
  case round =>
    obtain ⟨i, hi, rfl, rfl⟩ := hrel
    clear HS
    by_cases h13 : i < 13
    · have hdi : decide ((i : Int) < 13) = true := by simp; omega
      cases h1 : r.testBit i
      · have HF := hid (show cmF r s (i + 1) = cmF r s i by simp [cmF, orN, cmI_miss1 h1])
        have H1 := hid h1
        clear h1
        go_wp2_with (first | (go_at_call 109; (with_reducible refine (rhas_any r i hr h13 _).mono ?_); rintro e w' ⟨rfl, rfl⟩; rw [H1.out]))
        go_round
        case rel => exact ⟨i + 1, by omega, by go_num, by rw [HF.out]⟩
        case measure => simp [intOf]; omega
      · have H1 := hid h1
        clear h1
        go_wp2_with (first | (go_at_call 109; (with_reducible refine (rhas_any r i hr h13 _).mono ?_); rintro e w' ⟨rfl, rfl⟩; rw [H1.out]))
        go_loop [7, 17] (fun acc v => ∃ k : Nat, k ≤ 13 ∧ v = .int .i64 k ∧ acc = .int .i64 ((cmF r s i ||| cmI r s i k : Nat) : Int)) (fun _ v => 13 - (intOf v).toNat)
        case atStart => exact ⟨0, by omega, rfl, by simp [cmI, orN]⟩
        case round =>
          obtain ⟨k, hk, rfl, rfl⟩ := hrel
          by_cases k13 : k < 13
          · have hdk : decide ((k : Int) < 13) = true := by simp; omega
            cases h2 : s.testBit k
            · have HF := hid (show cmF r s i ||| cmI r s i (k + 1) = cmF r s i ||| cmI r s i k by rw [cmI_miss2 h2])
              have H2 := hid h2
              clear h2
              go_wp2_with (first | (go_at_call 109; (with_reducible refine (rhas_any s k hs k13 _).mono ?_); rintro e w' ⟨rfl, rfl⟩; rw [H2.out]))
              go_round
              case rel => exact ⟨k + 1, by omega, by go_num, by rw [HF.out]⟩
              case measure => simp [intOf]; omega
            · have HF := hid ((i64_or _ _ (or_lt (cmF_lt (r := r) (s := s) hi) (cmI_lt (r := r) (s := s) h13 hk)) (cmT_lt h13 k13)).trans (congrArg _ (show _ = cmF r s i ||| cmI r s i (k + 1) by rw [cmI_hit H1.out h2, Nat.or_assoc])))
              have H2 := hid h2
              have hx : i * 13 + k < 169 := by omega
              have i0 : (0 : Int) ≤ (i : Int) := by omega
              have i6 : (i : Int) < 13 := by omega
              have k0 : (0 : Int) ≤ (k : Int) := by omega
              have k6 : (k : Int) < 13 := by omega
              have c0 : w.cell? ⟨o, i * 13 + k, none⟩ = some (.int .i64 ((cmT i k : Nat) : Int)) := by
                have := HC.out _ hx
                rw [show i * 13 + k = 13 * i + k by omega] at this ⊢
                exact this
              clear h2
              go_wp2_with (first | (go_at_call 109; (with_reducible refine (rhas_any s k hs k13 _).mono ?_); rintro e w' ⟨rfl, rfl⟩; rw [H2.out]))
              go_round
              case rel => exact ⟨k + 1, by omega, by go_num, ret_val HF.out⟩
              case measure => simp [intOf]; omega
          · obtain rfl : k = 13 := by omega
            have hdk : decide (((13 : Nat) : Int) < 13) = false := by simp
            go_wp2
            go_round
            case rel => exact ⟨i + 1, by omega, by go_num, rfl⟩
            case measure => simp [intOf]; omega
    · obtain rfl : i = 13 := by omega
      have hdi : decide (((13 : Nat) : Int) < 13) = false := by simp
      go_wp2
      go_ret
      exact ⟨rfl, rfl⟩
set_option maxHeartbeats 2000000 in
set_option maxRecDepth 100000 in
theorem triangle_any (o n : Nat) (R : Nat → Nat → Nat) (hR : ∀ i k, R i k < 8192) (i k b : Nat) (hi : i < 6) (hk : k < 6) (hb : b < 6) (w : World) (hC : TC w o) (ho : o < w.heap.size) :
    Calls Tryd.prog 56 #[.agg (netV n R), .pointer (some ⟨o, 0, none⟩), .int .i64 i, .int .i64 k, .int .i64 b] w fun e w' => e = .returned (.int .i64 ((triN R i k b : Nat) : Int)) ∧ Below w.heap.size w w' := by
  have HN := NB.made w n R
  have HB := hid ((Below.refl w.heap.size w).alloc (Nat.le_refl _) (.cells (netV n R) 65))
  have HC := hid (show TC (w.alloc (.cells (netV n R) 65)) o from fun x hx => (HB.out.cell (p := ⟨o, x, none⟩) ho).trans (hC x hx))
  have c1 := HN.cell hi hk
  have c2 := HN.cell hi hb
  have c3 := HN.cell hb hk
  have i0 : (0 : Int) ≤ (i : Int) := by omega
  have i6 : (i : Int) < 6 := by omega
  have k0 : (0 : Int) ≤ (k : Int) := by omega
  have k6 : (k : Int) < 6 := by omega
  have b0 : (0 : Int) ≤ (b : Int) := by omega
  have b6 : (b : Int) < 6 := by omega
  have HV := hid (i64_and (R i k) (cmN (R i b) (R b k)) (hR i k) (cmN_lt _ _))
  have H1 := hid (hR i b)
  have H2 := hid (hR b k)
  clear HN hC ho hR
  have HS := AllLt.start w; go_enter Tryd.func56, Tryd.ntmps56
  go_upto_region 1 with fail
  generalize w.alloc (.cells (netV n R) 65) = w2 at *
  have HOF := hid (fun m => of_any o (R i b) (R b k) H1.out H2.out (w2.drewN m) HC.out)
  go_quiet (first | (go_at_call 86; with_reducible exact Calls.quiet_of_same ((HOF.out _).mono fun _ _ ⟨a, b⟩ => ⟨a, b.symm⟩)))
  go_wp2
  go_ret
  exact ⟨ret_int HV.out, below_drewN' HB.out _⟩
end
section
open Go.RowKit
set_option linter.unusedVariables false
set_option linter.unusedSimpArgs false
/-- a node leaves less -/
def whyP (R : Nat → Nat → Nat) (i k b : Nat) : Bool := triN R i k b != R i k
def whyO (R : Nat → Nat → Nat) (i k n : Nat) : Option Nat := (List.range n).find? (whyP R i k)
def whyN (R : Nat → Nat → Nat) (i k n : Nat) : Nat := (whyO R i k n).getD 0
def whyB (R : Nat → Nat → Nat) (i k n : Nat) : Bool := (whyO R i k n).isSome
theorem why_hit {R : Nat → Nat → Nat} {i k n b : Nat} (hb : b < n) (h : whyP R i k b = true) (H : ∀ x, x < b → whyP R i k x = false) : whyO R i k n = some b := by
  unfold whyO
  rw [List.find?_range_eq_some]
  exact ⟨h, List.mem_range.2 hb, fun j hj => by rw [H j hj]; rfl⟩
theorem why_miss {R : Nat → Nat → Nat} {i k n : Nat} (H : ∀ x, x < n → whyP R i k x = false) : whyO R i k n = none := by
  unfold whyO
  rw [List.find?_range_eq_none]
  exact fun j hj => by rw [H j hj]; rfl
theorem whyB_stb {R : Nat → Nat → Nat} {i k n : Nat} : whyB R i k n = false ↔ stb R i k n := by
  unfold whyB
  rw [Option.isSome_eq_false_iff, Option.isNone_iff_eq_none]
  unfold whyO
  rw [List.find?_range_eq_none]
  constructor
  · intro h b hb
    have := h b hb
    simpa [whyP] using this
  · intro h b hb
    have := h b hb
    simpa [whyP] using this
set_option maxHeartbeats 2000000 in
set_option maxRecDepth 100000 in
theorem narrower_any (o n : Nat) (h6 : n ≤ 6) (R : Nat → Nat → Nat) (hR : ∀ i k, R i k < 8192) (i k : Nat) (hi : i < 6) (hk : k < 6) (w : World) (hC : TC w o) (ho : o < w.heap.size) :
    Calls Tryd.prog 51 #[.agg (netV n R), .pointer (some ⟨o, 0, none⟩), .int .i64 i, .int .i64 k] w fun e w' => e = .returned (.tuple #[.int .i64 ((whyN R i k n : Nat) : Int), .bool (whyB R i k n)]) ∧ Below w.heap.size w w' := by
  have HN := hid (NB.made w n R)
  have HB := hid ((Below.refl w.heap.size w).alloc (Nat.le_refl _) (.cells (netV n R) 65))
  have HC := hid (show TC (w.alloc (.cells (netV n R) 65)) o from fun x hx => (HB.out.cell (p := ⟨o, x, none⟩) ho).trans (hC x hx))
  have ho2 : o < (w.alloc (.cells (netV n R) 65)).heap.size := by rw [World.size_alloc]; omega
  have HR := hid hR
  have i0 : (0 : Int) ≤ (i : Int) := by omega
  have i6 : (i : Int) < 6 := by omega
  have k0 : (0 : Int) ≤ (k : Int) := by omega
  have k6 : (k : Int) < 6 := by omega
  have c0 := HN.out.cell0
  clear hC ho hR
  have HS := AllLt.start w; go_enter Tryd.func51, Tryd.ntmps51
  go_upto_region 1 with fail
  generalize w.alloc (.cells (netV n R) 65) = w2 at *
  go_wp2_with fail
  clear c0
  go_loopw [14] (fun v wr => ∃ b : Nat, b ≤ n ∧ v = .int .i64 b ∧ Hid (∀ x, x < b → whyP R i k x = false) ∧ Hid (Below w2.heap.size w2 wr)) (fun v _ => n - (intOf v).toNat)
  case atStart => exact ⟨0, by omega, rfl, hid (fun x hx => by omega), hid (Below.refl _ _)⟩
  case round =>
    obtain ⟨b, hb, rfl, HF, HX⟩ := hrel
    clear HS
    obtain ⟨wi, rfl⟩ : ∃ wi : World, wi = wr := ⟨_, rfl⟩
    by_cases hbn : b < n
    · have hdb : decide ((b : Int) < (n : Int)) = true := by simp; omega
      have HNi := hid (HN.out.below' HX.out)
      have r0 := NB.run HNi.out
      have c1 := HNi.out.cell hi hk
      have hlt := HNi.out.lt
      have HCi := hid (show TC wi o from fun x hx => (HX.out.cell (p := ⟨o, x, none⟩) ho2).trans (HC.out x hx))
      have hoi : o < wi.heap.size := Nat.lt_of_lt_of_le ho2 HX.out.size
      have HCd := hid (show TC wi.drew o from HCi.out)
      have HOd := hid (show o < wi.drew.heap.size from hoi)
      have hb6 : b < 6 := by omega
      cases hw : whyP R i k b
      · have hq : (((triN R i k b : Nat) : Int) != ((R i k : Nat) : Int)) = false := by
          have : triN R i k b = R i k := by simpa [whyP] using hw
          rw [this]; simp
        have HN2 := hid (show ∀ x, x < b + 1 → whyP R i k x = false from fun x hx => by
          by_cases e : x < b
          · exact HF.out x e
          · obtain rfl : x = b := by omega
            exact hw)
        clear hw
        go_wp2_with fail
        go_region_held3 (fun wx => ((do let b ← isAgg 65; Next.value <$> (if b = true then (do let k ← sizeOf 65; Value.agg <$> loadCellsFrom ⟨w.heap.size, 0, none⟩ 0 k #[]) else Go.load ⟨w.heap.size, 0, none⟩) : Sem Next)).run Tryd.prog wx = .ok (.value (.agg (netV n R))) wx ∧ wx.cell? ⟨w.heap.size, 1 + i * 6 + k, none⟩ = some (.int .i64 ((R i k : Nat) : Int))) (first | exact ⟨NB.run (show NB wi.drew _ _ _ from HNi.out), c1⟩ | exact ⟨NB.run (HNi.out.below' HXx), by rw [HXx.cell (p := ⟨w.heap.size, 1 + i * 6 + k, none⟩) hlt]; exact c1⟩)
          (first | (go_at_call 56; (with_reducible refine (triangle_any o n R HR.out i k b hi hk hb6 _ HCd.out HOd.out).mono ?_); rintro e w' ⟨rfl, hb'⟩; obtain ⟨HXx, hz0, hz, hc, hf⟩ := bst (w0 := wi) (by go_grown) hb'; clear hb' hf hc hz hz0) | fail)
        all_goals
          go_wp2_with fail
          go_roundw
          case rel => exact ⟨b + 1, by omega, by go_num, HN2, hid (HX.out.trans (HXx.mono HX.out.size))⟩
          case measure => simp [intOf]; omega
      · have hq : (((triN R i k b : Nat) : Int) != ((R i k : Nat) : Int)) = true := by
          have : ¬ triN R i k b = R i k := by simpa [whyP] using hw
          rw [bne_iff_ne]; omega
        have HV := hid (why_hit hbn hw HF.out)
        have HV1 := hid (show whyN R i k n = b by rw [whyN, HV.out]; rfl)
        have HV2 := hid (show whyB R i k n = true by rw [whyB, HV.out]; rfl)
        clear hw
        go_wp2_with fail
        go_region_held3 (fun wx => ((do let b ← isAgg 65; Next.value <$> (if b = true then (do let k ← sizeOf 65; Value.agg <$> loadCellsFrom ⟨w.heap.size, 0, none⟩ 0 k #[]) else Go.load ⟨w.heap.size, 0, none⟩) : Sem Next)).run Tryd.prog wx = .ok (.value (.agg (netV n R))) wx ∧ wx.cell? ⟨w.heap.size, 1 + i * 6 + k, none⟩ = some (.int .i64 ((R i k : Nat) : Int))) (first | exact ⟨NB.run (show NB wi.drew _ _ _ from HNi.out), c1⟩ | exact ⟨NB.run (HNi.out.below' HXx), by rw [HXx.cell (p := ⟨w.heap.size, 1 + i * 6 + k, none⟩) hlt]; exact c1⟩)
          (first | (go_at_call 56; (with_reducible refine (triangle_any o n R HR.out i k b hi hk hb6 _ HCd.out HOd.out).mono ?_); rintro e w' ⟨rfl, hb'⟩; obtain ⟨HXx, hz0, hz, hc, hf⟩ := bst (w0 := wi) (by go_grown) hb'; clear hb' hf hc hz hz0) | fail)
        all_goals
          go_wp2_with fail
          go_ret2
          exact ⟨by rw [HV1.out, HV2.out]; rfl, HB.out.trans ((HX.out.trans (HXx.mono HX.out.size)).mono HB.out.size)⟩
    · obtain rfl : b = n := by omega
      have hdb : decide ((b : Int) < (b : Int)) = false := by simp
      have HV := hid (why_miss HF.out)
      have HV1 := hid (show whyN R i k b = 0 by rw [whyN, HV.out]; rfl)
      have HV2 := hid (show whyB R i k b = false by rw [whyB, HV.out]; rfl)
      go_wp2_with fail
      go_ret2
      exact ⟨by rw [HV1.out, HV2.out]; rfl, HB.out.trans (HX.out.mono HB.out.size)⟩
/-- the cells of pairs -/
def prC (l : List (Nat × Nat)) : List Value := l.flatMap fun p => [.int .i64 (p.1 : Int), .int .i64 (p.2 : Int)]
theorem prC_snoc (l : List (Nat × Nat)) (p : Nat × Nat) : prC (l ++ [p]) = prC l ++ [.int .i64 (p.1 : Int), .int .i64 (p.2 : Int)] := by simp [prC]
theorem prC_at : ∀ (l : List (Nat × Nat)) (j : Nat), j < l.length → (prC l)[2 * j]? = some (.int .i64 ((l.getD j (0, 0)).1 : Int)) ∧ (prC l)[2 * j + 1]? = some (.int .i64 ((l.getD j (0, 0)).2 : Int))
  | [], j, h => by simp at h
  | p :: l, 0, _ => by simp [prC]
  | p :: l, j + 1, h => by
    have := prC_at l j (by simpa using h)
    simp only [prC, List.flatMap_cons] at this ⊢
    rw [show 2 * (j + 1) = 2 * j + 1 + 1 by omega, show 2 * j + 1 + 1 + 1 = (2 * j + 1) + 1 + 1 by omega]
    simpa using this
/-- A slice of pairs. -/
def Ps (w : World) (v : Value) (l : List (Nat × Nat)) : Prop :=
  ∃ a cap, v = .slice a l.length cap ∧ ∀ j, j < l.length → ∃ g, a = some ⟨g, 0, none⟩ ∧ g < w.heap.size ∧ w.cell? ⟨g, j * 2, none⟩ = some (.int .i64 ((l.getD j (0, 0)).1 : Int)) ∧ w.cell? ⟨g, j * 2 + 1, none⟩ = some (.int .i64 ((l.getD j (0, 0)).2 : Int))
theorem Ps.of_own {w : World} {v : Value} {l : List (Nat × Nat)} {base : Nat} {T : TypeId} (h : w.ownsRow base T 2 v l.length (prC l)) : Ps w v l := by
  have h0 := h
  rcases h.2 with ⟨rfl, hn⟩ | ⟨g, cap, cur, rfl, hB, hg, h1, h2, h3, h4⟩
  · exact ⟨none, 0, by rw [hn], fun j hj => by omega⟩
  · refine ⟨some ⟨g, 0, none⟩, cap, rfl, fun j hj => ⟨g, rfl, (Array.getElem?_eq_some_iff.1 hg).1, ?_, ?_⟩⟩
    · have ha : ∀ j, (⟨g, 0, none⟩ : Addr).add j = ⟨g, j, none⟩ := fun j => by unfold Addr.add; split <;> simp_all
      have c1 := h0.cells (g := g) rfl (2 * j) _ (prC_at l j hj).1
      rw [ha] at c1
      rw [show j * 2 = 2 * j by omega]; exact c1
    · have ha : ∀ j, (⟨g, 0, none⟩ : Addr).add j = ⟨g, j, none⟩ := fun j => by unfold Addr.add; split <;> simp_all
      have c1 := h0.cells (g := g) rfl (2 * j + 1) _ (prC_at l j hj).2
      rw [ha] at c1
      rw [show j * 2 = 2 * j by omega]; exact c1
end
section
open Go.RowKit
set_option linter.unusedVariables false
set_option linter.unusedSimpArgs false
noncomputable def triI (z : Int) (s : ByteArray) (i k b : Int) : Int := if NV z s && hasB z i && hasB z k && hasB z b then (triN (mx z.toNat s) i.toNat k.toNat b.toNat : Nat) else -1
theorem triI_off {z : Int} {s : ByteArray} {i k b : Int} (h : (NV z s && hasB z i && hasB z k && hasB z b) = false) : triI z s i k b = -1 := by simp [triI, h]
theorem triI_in {n : Nat} {R : Nat → Nat → Nat} (h : OkR n R) {i k b : Nat} (hi : i < n) (hk : k < n) (hb : b < n) : triI n (netS n R) i k b = (triN R i k b : Nat) := by
  simp [triI, nv_net h, hasB_in hi, hasB_in hk, hasB_in hb, mx_net h]
noncomputable def whyI (z : Int) (s : ByteArray) (i k : Int) : Int := if NV z s && hasB z i && hasB z k then (match whyO (mx z.toNat s) i.toNat k.toNat z.toNat with | some b => (b : Int) | none => -1) else -2
theorem whyI_off {z : Int} {s : ByteArray} {i k : Int} (h : (NV z s && hasB z i && hasB z k) = false) : whyI z s i k = -2 := by simp [whyI, h]
theorem whyI_in {n : Nat} {R : Nat → Nat → Nat} (h : OkR n R) {i k : Nat} (hi : i < n) (hk : k < n) : whyI n (netS n R) i k = (match whyO R i k n with | some b => (b : Int) | none => -1) := by
  simp [whyI, nv_net h, hasB_in hi, hasB_in hk, mx_net h]
theorem whyI_yes {n : Nat} {R : Nat → Nat → Nat} (h : OkR n R) {i k : Nat} (hi : i < n) (hk : k < n) (hw : whyB R i k n = true) : whyI n (netS n R) i k = (whyN R i k n : Nat) := by
  rw [whyI_in h hi hk]
  unfold whyB at hw
  unfold whyN
  cases e : whyO R i k n with
  | none => rw [e] at hw; cases hw
  | some b => rfl
theorem whyI_none {n : Nat} {R : Nat → Nat → Nat} (h : OkR n R) {i k : Nat} (hi : i < n) (hk : k < n) (hw : whyB R i k n = false) : whyI n (netS n R) i k = -1 := by
  rw [whyI_in h hi hk]
  unfold whyB at hw
  cases e : whyO R i k n with
  | none => rfl
  | some b => rw [e] at hw; cases hw
set_option maxHeartbeats 4000000 in
set_option maxRecDepth 100000 in
theorem iTriangleRel_any (z : Int) (s : ByteArray) (i k b : Int) (w : World) (hT : TB w) :
    Calls Tryd.prog 24 #[.agg #[.int .i64 z, .string s], .int .i64 i, .int .i64 k, .int .i64 b] w fun e w' => e = .returned (.int .i64 (triI z s i k b)) ∧ Below w.heap.size w w' := by
  have HT := hid (hT.below ((Below.refl w.heap.size w).alloc (Nat.le_refl _) (.cells #[.int .i64 z, .string s] 25)))
  have HT0 := hid hT
  clear hT
  rcases nv_cases z s with h | ⟨n, R, hR, rfl, rfl⟩
  · have HNV := hid h
    have HV := hid (triI_off (i := i) (k := k) (b := b) (show (NV z s && hasB z i && hasB z k && hasB z b) = false by simp [h]))
    clear h
    have HS := AllLt.start w; go_enter Tryd.func24, Tryd.ntmps24
    go_wp2_with fail
    (with_reducible refine (networkOf_no z s HNV.out _ HT.out).mono ?_)
    rintro e w1 ⟨rfl, hb⟩
    go_upto_region 2 with (first | refine al_net rfl rfl ?_ | refine st_net rfl _ _ rfl rfl rfl (NB.made w1 0 fun _ _ => 0) ?_)
    go_wp2
    go_ret
    exact ⟨ret_int HV.out.symm, below_setRow ((((Below.refl _ _).alloc (Nat.le_refl _) _).trans (hb.mono (by simp))).alloc (by have := hb.size; simp at this; omega) _) (by have := hb.size; simp at this; omega) _⟩
  · have HN := hid (networkOf_yes n R hR)
    have HOK := hid hR
    clear hR
    have HS := AllLt.start w; go_enter Tryd.func24, Tryd.ntmps24
    go_wp2_with fail
    (with_reducible refine (HN.out _ HT.out).mono ?_)
    rintro e w1 ⟨rfl, hb⟩
    have HB0 := hid (below_setRow ((((Below.refl w.heap.size w).alloc (Nat.le_refl _) (.cells #[.int .i64 (n : Int), .string (netS n R)] 25)).trans (hb.mono (by simp))).alloc (by have := hb.size; simp at this; omega) (.cells (netV 0 fun _ _ => 0) 65)) (show w.heap.size ≤ w1.heap.size by have := hb.size; simp at this; omega) (netV n R))
    have HN2 := hid ((NB.made w1 0 fun _ _ => 0).row n R)
    clear hb
    go_upto_region 2 with (first | refine al_net rfl rfl ?_ | refine st_net rfl _ _ rfl rfl rfl (NB.made w1 0 fun _ _ => 0) ?_)
    generalize (w1.alloc (.cells (netV 0 fun _ _ => 0) 65)).setRow w1.heap.size (netV n R) = w2 at *
    have q0 := HN2.out.cell0
    go_wp2_with fail
    (with_reducible refine (nhas_any n i _).mono ?_)
    rintro e w3 ⟨rfl, hb⟩
    have HN3 := hid (HN2.out.below' hb)
    have HB3 := hid (HB0.out.trans (hb.mono HB0.out.size))
    clear hb q0
    rcases hasB_cases n i with hi | ⟨i, hi, rfl⟩
    · have HV := hid (triI_off (z := n) (s := netS n R) (i := i) (k := k) (b := b) (by simp [hi]))
      rw [hi]
      clear hi
      go_wp2_with fail
      go_ret
      exact ⟨ret_int HV.out.symm, HB3.out⟩
    · rw [hasB_in hi]
      have q0 := HN3.out.cell0
      go_wp2_with fail
      (with_reducible refine (nhas_any n k _).mono ?_)
      rintro e w4 ⟨rfl, hb⟩
      have HN4 := hid (HN3.out.below' hb)
      have HB4 := hid (HB3.out.trans (hb.mono HB3.out.size))
      clear hb q0
      rcases hasB_cases n k with hk | ⟨k, hk, rfl⟩
      · have HV := hid (triI_off (z := n) (s := netS n R) (i := i) (k := k) (b := b) (by simp [hk]))
        rw [hk]
        clear hk
        go_wp2_with fail
        go_ret
        exact ⟨ret_int HV.out.symm, HB4.out⟩
      · rw [hasB_in hk]
        have q0 := HN4.out.cell0
        go_wp2_with fail
        (with_reducible refine (nhas_any n b _).mono ?_)
        rintro e w5 ⟨rfl, hb⟩
        have HN5 := hid (HN4.out.below' hb)
        have HB5 := hid (HB4.out.trans (hb.mono HB4.out.size))
        clear hb q0
        rcases hasB_cases n b with hb | ⟨b, hb, rfl⟩
        · have HV := hid (triI_off (z := n) (s := netS n R) (i := i) (k := k) (b := b) (by simp [hb]))
          rw [hb]
          clear hb
          go_wp2_with fail
          go_ret
          exact ⟨ret_int HV.out.symm, HB5.out⟩
        · rw [hasB_in hb]
          have HV := hid (triI_in HOK.out hi hk hb)
          have h6 := HOK.out.le
          have HT5 := hid (HT0.out.below (HB5.out.trans ((Below.refl _ _).drew)))
          have HLT := hid HOK.out.lt
          have r0 := NB.run HN5.out
          go_wp2_with fail
          go_region_held3 (fun wx => ((do let b ← isAgg 65; Next.value <$> (if b = true then (do let k ← sizeOf 65; Value.agg <$> loadCellsFrom ⟨w1.heap.size, 0, none⟩ 0 k #[]) else Go.load ⟨w1.heap.size, 0, none⟩) : Sem Next)).run Tryd.prog wx = .ok (.value (.agg (netV n R))) wx) (first | exact NB.run (show NB w5.drew _ _ _ from HN5.out) | exact NB.run (HN5.out.below' HX))
            (first | (go_at_call 52; (with_reducible refine (allComp_any _ HT5.out).mono ?_); rintro e w' ⟨⟨o, rfl, ho, hcb⟩, hb'⟩; obtain ⟨HX, hz0, hz, hc, hf⟩ := bst (w0 := w5) (by go_grown) hb'; have HCo := hid hcb; clear hb' hf hc hz hz0 hcb) | (go_at_call 56; (with_reducible refine (triangle_any o n R HLT.out i k b (by omega) (by omega) (by omega) _ HCo.out.tc HCo.out.lt).mono ?_); rintro e w' ⟨rfl, hb'⟩; obtain ⟨HX, hz0, hz, hc, hf⟩ := bst (w0 := w5) (by go_grown) hb'; clear hb' hf hc hz hz0) | fail)
          all_goals
            go_wp2_with fail
            go_ret
            exact ⟨ret_int HV.out.symm, HB5.out.trans (HX.mono HB5.out.size)⟩
set_option maxHeartbeats 4000000 in
set_option maxRecDepth 100000 in
theorem iWhyTriangle_any (z : Int) (s : ByteArray) (i k : Int) (w : World) (hT : TB w) :
    Calls Tryd.prog 22 #[.agg #[.int .i64 z, .string s], .int .i64 i, .int .i64 k] w fun e w' => e = .returned (.int .i64 (whyI z s i k)) ∧ Below w.heap.size w w' := by
  have HT := hid (hT.below ((Below.refl w.heap.size w).alloc (Nat.le_refl _) (.cells #[.int .i64 z, .string s] 25)))
  have HT0 := hid hT
  clear hT
  rcases nv_cases z s with h | ⟨n, R, hR, rfl, rfl⟩
  · have HNV := hid h
    have HV := hid (whyI_off (i := i) (k := k) (show (NV z s && hasB z i && hasB z k) = false by simp [h]))
    clear h
    have HS := AllLt.start w; go_enter Tryd.func22, Tryd.ntmps22
    go_wp2_with fail
    (with_reducible refine (networkOf_no z s HNV.out _ HT.out).mono ?_)
    rintro e w1 ⟨rfl, hb⟩
    go_upto_region 2 with (first | refine al_net rfl rfl ?_ | refine st_net rfl _ _ rfl rfl rfl (NB.made w1 0 fun _ _ => 0) ?_)
    go_wp2
    go_ret
    exact ⟨ret_int HV.out.symm, below_setRow ((((Below.refl _ _).alloc (Nat.le_refl _) _).trans (hb.mono (by simp))).alloc (by have := hb.size; simp at this; omega) _) (by have := hb.size; simp at this; omega) _⟩
  · have HN := hid (networkOf_yes n R hR)
    have HOK := hid hR
    clear hR
    have HS := AllLt.start w; go_enter Tryd.func22, Tryd.ntmps22
    go_wp2_with fail
    (with_reducible refine (HN.out _ HT.out).mono ?_)
    rintro e w1 ⟨rfl, hb⟩
    have HB0 := hid (below_setRow ((((Below.refl w.heap.size w).alloc (Nat.le_refl _) (.cells #[.int .i64 (n : Int), .string (netS n R)] 25)).trans (hb.mono (by simp))).alloc (by have := hb.size; simp at this; omega) (.cells (netV 0 fun _ _ => 0) 65)) (show w.heap.size ≤ w1.heap.size by have := hb.size; simp at this; omega) (netV n R))
    have HN2 := hid ((NB.made w1 0 fun _ _ => 0).row n R)
    clear hb
    go_upto_region 2 with (first | refine al_net rfl rfl ?_ | refine st_net rfl _ _ rfl rfl rfl (NB.made w1 0 fun _ _ => 0) ?_)
    generalize (w1.alloc (.cells (netV 0 fun _ _ => 0) 65)).setRow w1.heap.size (netV n R) = w2 at *
    have q0 := HN2.out.cell0
    go_wp2_with fail
    (with_reducible refine (nhas_any n i _).mono ?_)
    rintro e w3 ⟨rfl, hb⟩
    have HN3 := hid (HN2.out.below' hb)
    have HB3 := hid (HB0.out.trans (hb.mono HB0.out.size))
    clear hb q0
    rcases hasB_cases n i with hi | ⟨i, hi, rfl⟩
    · have HV := hid (whyI_off (z := n) (s := netS n R) (i := i) (k := k) (by simp [hi]))
      rw [hi]
      clear hi
      go_wp2_with fail
      go_ret
      exact ⟨ret_int HV.out.symm, HB3.out⟩
    · rw [hasB_in hi]
      have q0 := HN3.out.cell0
      go_wp2_with fail
      (with_reducible refine (nhas_any n k _).mono ?_)
      rintro e w4 ⟨rfl, hb⟩
      have HN4 := hid (HN3.out.below' hb)
      have HB4 := hid (HB3.out.trans (hb.mono HB3.out.size))
      clear hb q0
      rcases hasB_cases n k with hk | ⟨k, hk, rfl⟩
      · have HV := hid (whyI_off (z := n) (s := netS n R) (i := i) (k := k) (by simp [hk]))
        rw [hk]
        clear hk
        go_wp2_with fail
        go_ret
        exact ⟨ret_int HV.out.symm, HB4.out⟩
      · rw [hasB_in hk]
        have h6 := HOK.out.le
        have HT5 := hid (HT0.out.below (HB4.out.trans ((Below.refl _ _).drew)))
        have HLT := hid HOK.out.lt
        have r0 := NB.run HN4.out
        cases hw : whyB R i k n
        all_goals
          have HW := hid hw
          clear hw
          go_wp2_with fail
          go_region_held3 (fun wx => ((do let b ← isAgg 65; Next.value <$> (if b = true then (do let k ← sizeOf 65; Value.agg <$> loadCellsFrom ⟨w1.heap.size, 0, none⟩ 0 k #[]) else Go.load ⟨w1.heap.size, 0, none⟩) : Sem Next)).run Tryd.prog wx = .ok (.value (.agg (netV n R))) wx) (first | exact NB.run (show NB w4.drew _ _ _ from HN4.out) | exact NB.run (HN4.out.below' HX))
            (first | (go_at_call 52; (with_reducible refine (allComp_any _ HT5.out).mono ?_); rintro e w' ⟨⟨o, rfl, ho, hcb⟩, hb'⟩; obtain ⟨HX, hz0, hz, hc, hf⟩ := bst (w0 := w4) (by go_grown) hb'; have HCo := hid hcb; clear hb' hf hc hz hz0 hcb) | (go_at_call 51; (with_reducible refine (narrower_any o n h6 R HLT.out i k (by omega) (by omega) _ HCo.out.tc HCo.out.lt).mono ?_); rintro e w' ⟨rfl, hb'⟩; rw [HW.out]; obtain ⟨HX, hz0, hz, hc, hf⟩ := bst (w0 := w4) (by go_grown) hb'; clear hb' hf hc hz hz0) | fail)
        · have HV := hid (whyI_none HOK.out hi hk HW.out)
          all_goals
            go_wp2_with fail
            go_ret
            exact ⟨ret_int HV.out.symm, HB4.out.trans (HX.mono HB4.out.size)⟩
        · have HV := hid (whyI_yes HOK.out hi hk HW.out)
          all_goals
            go_wp2_with fail
            go_ret
            exact ⟨ret_int HV.out.symm, HB4.out.trans (HX.mono HB4.out.size)⟩
/-- no node leaves less of a pair -/
noncomputable def clsB (n : Nat) (R : Nat → Nat → Nat) : Bool := !((edL n).any fun p => whyB R p.1 p.2 n)
noncomputable def clsI (z : Int) (s : ByteArray) : Bool := NV z s && clsB z.toNat (mx z.toNat s)
theorem clsI_no {z : Int} {s : ByteArray} (h : NV z s = false) : clsI z s = false := by simp [clsI, h]
theorem clsI_yes {n : Nat} {R : Nat → Nat → Nat} (h : OkR n R) : clsI n (netS n R) = clsB n R := by simp [clsI, nv_net h, mx_net h]
theorem clsB_iff {n : Nat} {R : Nat → Nat → Nat} : clsB n R = true ↔ Qt n R := by
  unfold clsB Qt
  rw [Bool.not_eq_true', List.any_eq_false]
  constructor
  · intro h p hp
    exact whyB_stb.1 (by simpa using h p hp)
  · intro h p hp
    rw [whyB_stb.2 (h p hp)]; simp
end
end Go.Proofs.YtnogdjmciekieaaDoor.C
