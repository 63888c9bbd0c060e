/- A copy of the ends of intervals. -/
import Derived.Test.YtmdgkhebefnfeabSrf
import Derived.Lib.Walk
import Derived.Lib.SliceRun
namespace Go.Proofs.Ytmdgkhebefnfeab.C
open Go.RowKit
set_option linter.unusedVariables false
set_option linter.unusedSimpArgs false
theorem pntInfo : (Try.prog.info? 56).map (fun i => (i.zero, i.size, i.bytes)) = some (some (.int .i64 0), 1, 8) := by kernel_rfl
def fL (f : Nat → Int) (n : Nat) : List Value := (List.range n).map fun i => Value.int .i64 (f i)
theorem fL_len (f : Nat → Int) (n : Nat) : (fL f n).length = n := by simp [fL]
theorem fL_get {f : Nat → Int} {n j : Nat} (h : j < n) : (fL f n)[j]? = some (.int .i64 (f j)) := by simp [fL, List.getElem?_range h]
theorem fL_news {w : World} {g n : Nat} {f : Nat → Int} (h : ∀ i, i < n → w.cell? ⟨g, i, none⟩ = some (.int .i64 (f i))) : ∀ j u, (fL f n)[j]? = some u → w.cell? ((⟨g, 0, none⟩ : Addr).add j) = some u := by
  intro j u hj
  have hjl : j < n := by
    have := (List.getElem?_eq_some_iff.1 hj).1
    rwa [fL_len] at this
  have ha : (⟨g, 0, none⟩ : Addr).add j = ⟨g, j, none⟩ := by unfold Addr.add; split <;> simp_all
  rw [ha, h j hjl, ← hj, fL_get hjl]
theorem sb_own {w : World} {B n : Nat} {v : Value} {f : Nat → Int} {T : TypeId} (h : w.ownsRow B T 1 v n (fL f n)) (hn : 1 ≤ n) : ∃ b cap, v = .slice (some ⟨b, 0, none⟩) n cap ∧ n ≤ cap ∧ B ≤ b ∧ Sb b n f w w := by
  have h0 := h
  rcases h.2 with ⟨rfl, he⟩ | ⟨g, cap, cur, rfl, hB, hg, h1, h2, h3, h4⟩
  · omega
  · refine ⟨g, cap, rfl, h1, hB, Wr.refl _ _, (Array.getElem?_eq_some_iff.1 hg).1, fun i hi => ?_, fun i hi => frozen_of_row w g i _ _ hg⟩
    have c1 := h0.cells (g := g) rfl i (.int .i64 (f i)) (fL_get hi)
    have ha : ∀ j, (⟨g, 0, none⟩ : Addr).add j = ⟨g, j, none⟩ := fun j => by unfold Addr.add; split <;> simp_all
    rw [ha] at c1
    exact c1
theorem clonep_any (g cap n : Nat) (f : Nat → Int) (w : World) (h : ∀ i, i < n → w.cell? ⟨g, i, none⟩ = some (.int .i64 (f i))) (h1 : 1 ≤ n) (hn : n ≤ 12) (hc : n ≤ cap) :
    Calls Try.prog 67 #[.slice (some ⟨g, 0, none⟩) n cap] w fun e w' => ∃ b cap', e = .returned (.slice (some ⟨b, 0, none⟩) n cap') ∧ n ≤ cap' ∧ w.heap.size ≤ b ∧ Sb b n f w' w' ∧ Below w.heap.size w w' := by
  obtain ⟨i0, hi0, hz0, hz1, hz2⟩ := info_parts pntInfo
  have q22 : ∀ (w : World) (a : Option Addr) (n c n' c' : Nat), (binOp .eql 49 (.slice a n c) (.slice none n' c')).run Try.prog w = .ok (.bool a.isNone) w := fun w a n c n' c' => Lib.run_eql_slice_nil w _ _ a n c n' c' Try.underlying49
  have HN := hid (fL_news h)
  clear h
  have HS := AllLt.start w; go_enter Try.func67, Try.ntmps67
  go_wp2_with (at_builtin; refine wpList_append_own _ rfl _ _ 49 rfl w.heap.size 56 i0 _ 1 8 Try.underlying49 hi0 hz0 hz1 hz2 rfl (by decide) _ _ _ rfl (World.ownsRow_made w #[] 0 (Nat.le_refl _) (Nat.zero_le _) rfl) ⟨g, 0, none⟩ n cap (fL f n) rfl ?c1 ?c2 ?c3 ?c4 ?c5 ?c6 ?_)
  case c1 => simp [fL_len]
  case c2 => exact fun j u hj => Lib.cell?_alloc_some _ (HN.out j u hj)
  case c3 => intro u hu; obtain ⟨x, _, rfl⟩ := List.mem_map.1 hu; rfl
  case c4 => unfold maxLen; omega
  case c5 => omega
  case c6 => simp
  intro v' w1 hown hgrow hnil
  have hb := ((Below.refl _ w).alloc (Nat.le_refl _) (.cells #[] 56)).grown hgrow (by simp) (by intro k hk; simp [Value.ownBlock] at hk; omega)
  obtain ⟨b, cap', rfl, q1, q2, q3⟩ := sb_own (n := n) (f := f) (by simpa using hown) h1
  have H3 := hid q3
  have HB := hid hb
  clear hown hgrow hnil q3 hb
  go_wp2
  go_ret
  exact ⟨b, cap', rfl, q1, q2, H3.out, HB.out⟩
end Go.Proofs.Ytmdgkhebefnfeab.C
