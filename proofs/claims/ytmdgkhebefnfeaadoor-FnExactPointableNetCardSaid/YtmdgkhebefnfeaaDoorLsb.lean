/- Chapter 4: lists of basic relations, those that fit, what is in a list. -/
import Derived.Test.YtmdgkhebefnfeaaDoorLst
namespace Go.Proofs.YtmdgkhebefnfeaaDoor.C
open Go.RowKit
set_option linter.unusedVariables false
set_option linter.unusedSimpArgs false
/-- A slice whose elements are l, for reading. -/
def Ls (w : World) (v : Value) (l : List Nat) : Prop :=
  ∃ a cap, v = .slice a l.length cap ∧ l.length ≤ cap ∧ (a = none → l.length = 0 ∧ cap = 0) ∧ ∀ i, i < l.length → ∃ g, a = some ⟨g, 0, none⟩ ∧ g < w.heap.size ∧ w.cell? ⟨g, i, none⟩ = some (.int .i64 ((l.getD i 0 : Nat) : Int))
theorem Ls.below {w w' : World} {v : Value} {l : List Nat} (h : Ls w v l) (hb : Below w.heap.size w w') : Ls w' v l := by
  obtain ⟨a, cap, h1, h2, h4, h3⟩ := h
  refine ⟨a, cap, h1, h2, h4, fun i hi => ?_⟩
  obtain ⟨g, rfl, hg, hc⟩ := h3 i hi
  exact ⟨g, rfl, Nat.lt_of_lt_of_le hg hb.size, by rw [hb.cell (p := ⟨g, i, none⟩) hg]; exact hc⟩
theorem Ls.drewN {w : World} {v : Value} {l : List Nat} (h : Ls w v l) (n : Nat) : Ls (w.drewN n) v l := h
/-- A slice of basic relations of the program's own, in blocks from B on. -/
def Bs (w : World) (B : Nat) (v : Value) (l : List Nat) : Prop := w.ownsRow B 161 1 v l.length (l.map fun k => Value.int .i64 ((k : Nat) : Int))
theorem bscInfo : (Tryd.prog.info? 161).map (fun i => (i.zero, i.size, i.bytes)) = some (some (.int .i64 0), 1, 8) := by kernel_rfl
theorem own_at {w : World} {base n g cap : Nat} {l : List Nat} {T : TypeId} (h : w.ownsRow base T 1 (.slice (some ⟨g, 0, none⟩) n cap) n (l.map fun k => Value.int .i64 ((k : Nat) : Int))) {i : Nat} (hi : i < l.length) :
    w.cell? ⟨g, i, none⟩ = some (.int .i64 ((l.getD i 0 : Nat) : Int)) := by
  have c1 := h.cells (g := g) rfl i (.int .i64 ((l.getD i 0 : Nat) : Int)) (by simp [hi])
  have ha : ∀ j, (⟨g, 0, none⟩ : Addr).add j = ⟨g, j, none⟩ := fun j => by unfold Addr.add; split <;> simp_all
  rw [ha] at c1
  exact c1
theorem Bs.ls {w : World} {B : Nat} {v : Value} {l : List Nat} (h : Bs w B v l) : Ls w v l := by
  have h0 := h
  rcases h.2 with ⟨rfl, hn⟩ | ⟨g, cap, cur, rfl, hB, hg, h1, h2, h3, h4⟩
  · exact ⟨none, 0, by rw [hn], by omega, fun _ => ⟨hn, rfl⟩, fun i hi => by omega⟩
  · refine ⟨_, cap, rfl, h1, fun e => (by cases e), fun i hi => ⟨g, rfl, (Array.getElem?_eq_some_iff.1 hg).1, own_at h0 hi⟩⟩
theorem bs_snoc {w : World} {B : Nat} {v : Value} {l : List Nat} {k : Nat} {T : TypeId} (h : w.ownsRow B T 1 v (l.length + 1) ((l.map fun k => Value.int .i64 ((k : Nat) : Int)) ++ [.int .i64 ((k : Nat) : Int)])) : w.ownsRow B T 1 v (l ++ [k]).length ((l ++ [k]).map fun k => Value.int .i64 ((k : Nat) : Int)) := by
  rw [List.length_append, List.map_append]
  exact h
theorem own_below {w w' : World} {base e size n : Nat} {v : Value} {xs : List Value} (h : w.ownsRow base e size v n xs) (hb : Below w.heap.size w w') : w'.ownsRow base e size v n xs :=
  h.kept (row := none) ⟨hb.os, hb.tape, hb.output, hb.size, fun k hk _ => hb.block k hk⟩ (by cases hv : v.ownBlock <;> simp)
theorem own_base {w : World} {B B' e size n : Nat} {v : Value} {xs : List Value} (h : w.ownsRow B e size v n xs) (hB : B' ≤ B) : w.ownsRow B' e size v n xs := by
  refine ⟨h.1, ?_⟩
  rcases h.2 with h1 | ⟨g, cap, cur, h1, h2, h3⟩
  · exact .inl h1
  · exact .inr ⟨g, cap, cur, h1, Nat.le_trans hB h2, h3⟩
theorem rhas_below (n k : Nat) (hn : n < 8192) (hk : k < 13) (w : World) :
    Calls Tryd.prog 181 #[.int .i64 n, .int .i64 k] w fun e w' => e = .returned (.bool (n.testBit k)) ∧ Below w.heap.size w w' :=
  (rhas_any n k hn hk w).mono fun e w' h => by
    obtain ⟨h1, rfl⟩ := h
    exact ⟨h1, Below.refl _ _⟩
set_option maxHeartbeats 1000000 in
theorem bwhere_has (n : Nat) (hn : n < 8192) (w : World) (hT : TB w) :
    Calls Tryd.prog 180 #[.func (.func 181) #[.int .i64 n] #[]] w fun e w' => ∃ v, e = .returned v ∧ Bs w' w.heap.size v (bl (n.testBit) 13) ∧ Below w.heap.size w w' := by
  have HT := hid hT
  clear hT
  obtain ⟨i0, hi0, hz0, hz1, hz2⟩ := info_parts bscInfo
  have HS := AllLt.start w; go_enter Tryd.func180, Tryd.ntmps180
  go_wp2
  go_loopw [3, 5] (fun v a wr => ∃ k : Nat, k ≤ 13 ∧ a = .int .i64 k ∧ Hid (Bs wr w.heap.size v (bl (n.testBit) k)) ∧ Hid (Below w.heap.size w wr)) (fun _ a _ => 13 - (intOf a).toNat)
  case atStart => exact ⟨0, by omega, rfl, hid (World.ownsRow_nil _ _ _ _), hid (Below.refl _ _)⟩
  case round =>
    obtain ⟨k, hk, rfl, HO, HB⟩ := hrel
    clear HS
    obtain ⟨wo, rfl⟩ : ∃ wo : World, wo = wr := ⟨_, rfl⟩
    by_cases h13 : k < 13
    · have hdi : decide ((k : Int) < 13) = true := by simp; omega
      cases hq : (n.testBit) k
      · have HF := hid (bl_miss hq)
        have HQ := hid hq
        clear hq
        go_wp2_with (go_at_call 181; (with_reducible refine (rhas_below n k hn h13 _).mono ?_); rintro e w' ⟨rfl, hb⟩; rw [HQ.out])
        go_roundw
        case rel => exact ⟨k + 1, by omega, by go_num, hid (by rw [HF.out]; exact own_below HO.out hb), hid (HB.out.trans (hb.mono HB.out.size))⟩
        case measure => simp [intOf]; omega
      · have HF := hid (bl_hit hq)
        have HQ := hid hq
        have hln := bl_len (n.testBit) k
        clear hq
        go_wp2_with (first | (go_at_call 181; (with_reducible refine (rhas_below n k hn h13 _).mono ?_); rintro e w1 ⟨rfl, hb⟩; rw [HQ.out]; have HO1 := hid (own_below HO.out hb); have HB1 := hid (HB.out.trans (hb.mono HB.out.size)); have hbase : Hid (w.heap.size ≤ w1.heap.size) := hid HB1.out.size; clear hb) | (at_builtin; refine wpList_append_own _ rfl _ _ 184 rfl w.heap.size 161 i0 _ 1 8 Tryd.underlying184 hi0 hz0 hz1 hz2 rfl (by decide) _ _ _ rfl (HO1.out.alloc _) ⟨w1.heap.size, 0, none⟩ 1 1 [.int .i64 (k : Int)] rfl rfl ?c1 ?c2 ?c3 ?c4 ?c5 ?_))
        case c1 =>
          intro j u hj
          match j, hj with
          | 0, hj => simp at hj; subst hj; simp [Addr.add]
        case c2 => intro u hu; simp at hu; subst hu; rfl
        case c3 => unfold maxLen; omega
        case c4 => omega
        case c5 => have := hbase.out; simp; omega
        intro v' w2 hown' hgrow _
        have HB2 := hid ((HB1.out.alloc HB1.out.size _).grown hgrow (by have := hbase.out; simp; omega) (fun j hj => (HO1.out.lt j hj).1))
        have HO2 : Hid (Bs w2 w.heap.size v' (bl (n.testBit) (k + 1))) := hid (by
          rw [HF.out]
          exact bs_snoc hown')
        clear hown' hgrow
        go_wp2
        go_roundw
        case rel => exact ⟨k + 1, by omega, by go_num, HO2, HB2⟩
        case measure => simp [intOf]; omega
    · obtain rfl : k = 13 := by omega
      have hdi : decide (((13 : Nat) : Int) < 13) = false := by simp
      go_wp2
      go_ret
      exact ⟨_, rfl, HO.out, HB.out⟩
theorem basics_any (n : Nat) (hn : n < 8192) (w : World) (hT : TB w) :
    Calls Tryd.prog 161 #[.int .i64 n] w fun e w' => ∃ v, e = .returned v ∧ Bs w' w.heap.size v (bl n.testBit 13) ∧ Below w.heap.size w w' := by
  have HT := hid hT
  clear hT
  have HS := AllLt.start w; go_enter Tryd.func161, Tryd.ntmps161
  go_wp2_with fail
  (with_reducible refine (bwhere_has n hn _ HT.out).mono ?_)
  rintro e w' ⟨v, rfl, ho, hb'⟩
  go_wp2
  go_ret
  exact ⟨_, rfl, ho, hb'⟩
end Go.Proofs.YtmdgkhebefnfeaaDoor.C
