/- BusyAt: the intervals in which a moment lies. -/
import Derived.Test.YtmdgkhebefnfeabIvs
import Derived.Test.YtmdgkhebefnfeabEndsX
import Derived.Test.YtmdgkhebefnfeabLatM
import Derived.Deep.AppendLies
import Derived.Laws.AppendOwn
namespace Go.Proofs.Ytmdgkhebefnfeab.C
open Go.RowKit
set_option linter.unusedVariables false
set_option linter.unusedSimpArgs false
theorem own_below9 {w w' : World} {base e size n : Nat} {v : Value} {xs : List Value} (h : w.ownsRow base e size v n xs) (hb : Below w.heap.size w w') : w'.ownsRow base e size v n xs :=
  h.kept (row := none) ⟨hb.os, hb.tape, hb.output, hb.size, fun k hk _ => hb.block k hk⟩ (by cases hv : v.ownBlock <;> simp)
def intC (l : List Nat) : List Value := l.map fun k => Value.int .i64 ((k : Nat) : Int)
theorem intC_snoc (l : List Nat) (k : Nat) : intC (l ++ [k]) = intC l ++ [.int .i64 ((k : Nat) : Int)] := by simp [intC]
theorem own_newSl {w w' : World} {t : TypeId} {v : Value} {l : List Nat} (h : w'.ownsRow w.heap.size t 1 v l.length (intC l)) (hb : Below w.heap.size w w') : NewSl w l.length (fun i => ((l.getD i 0 : Nat) : Int)) v w' := by
  have h0 := h
  refine ⟨hb, ?_⟩
  rcases h.2 with ⟨rfl, hn⟩ | ⟨g, cap, cur, rfl, hB, hg, h1, h2, h3, h4⟩
  · exact .inl ⟨hn, _, _, rfl⟩
  · refine .inr ⟨g, cap, rfl, h1, hB, (Array.getElem?_eq_some_iff.1 hg).1, fun i hi => ?_, fun i hi => h.frozenAt i⟩
    rw [h.cellAt i (by omega)]
    simp [intC, hi]
theorem NewSl.from {w w1 w2 : World} {n : Nat} {f : Nat → Int} {v : Value} (h : NewSl w1 n f v w2) (hb : Below w.heap.size w w1) : NewSl w n f v w2 := by
  refine ⟨hb.trans (h.1.mono hb.size), h.2.imp id ?_⟩
  rintro ⟨b, cap, h1, h2, h3, h4⟩
  exact ⟨b, cap, h1, h2, Nat.le_trans hb.size h3, h4⟩
def bsyP (F T : Nat → Int) (x : Int) (i : Nat) : Bool := decide (F i ≤ x) && decide (x < T i)
def bsyL (F T : Nat → Int) (x : Int) (n : Nat) : List Nat := bl (bsyP F T x) n
theorem bsyL_hit {F T : Nat → Int} {x : Int} {k : Nat} (h : bsyP F T x k = true) : bsyL F T x (k + 1) = bsyL F T x k ++ [k] := bl_hit h
theorem bsyL_miss {F T : Nat → Int} {x : Int} {k : Nat} (h : bsyP F T x k = false) : bsyL F T x (k + 1) = bsyL F T x k := bl_miss h
theorem bsyL_len (F T : Nat → Int) (x : Int) (n : Nat) : (bsyL F T x n).length ≤ n := bl_len _ _
theorem intInfo9 : (Try.prog.info? 3).map (fun i => (i.zero, i.size, i.bytes)) = some (some (.int .i64 0), 1, 8) := by kernel_rfl
theorem iBusyAt_zero (a : Option Addr) (c : Nat) (x : Int) (w : World) :
    Calls Try.prog 30 #[.slice a 0 c, .int .i64 x] w (NewS w 0 fun _ => 0) := by
  have HS := AllLt.start w; go_enter Try.func30, Try.ntmps30
  go_wp2_with fail
  (with_reducible refine (isPlan_zero _ _ _).mono ?_)
  rintro e w2 ⟨rfl, hb⟩
  have HB := hid hb
  clear hb
  go_wp2_with fail
  go_ret
  exact ⟨_, rfl, HB.out, .inl ⟨rfl, _, _, rfl⟩⟩
theorem iBusyAt_off (b cap n : Nat) (F T : Nat → Int) (x : Int) (w : World) (hn : n ≤ 4611686018427387904) (h1 : n ≤ cap) (hR : Rv w b n F T) (h : plV n F T = false) :
    Calls Try.prog 30 #[.slice (some ⟨b, 0, none⟩) n cap, .int .i64 x] w (NewS w 0 fun _ => 0) := by
  have HI := hid (isPlan_any b cap n F T w hn h1 hR)
  rw [h] at HI
  clear hR h
  have HS := AllLt.start w; go_enter Try.func30, Try.ntmps30
  go_wp2_with fail
  (with_reducible refine HI.out.mono ?_)
  rintro e w2 ⟨rfl, hb⟩
  have HB := hid hb
  clear hb
  go_wp2_with fail
  go_ret
  exact ⟨_, rfl, HB.out, .inl ⟨rfl, _, _, rfl⟩⟩
set_option maxHeartbeats 1000000 in
theorem iBusyAt_on (b cap n : Nat) (F T : Nat → Int) (x : Int) (w : World) (h1 : n ≤ cap) (hR : Rv w b n F T) (h : plV n F T = true) :
    Calls Try.prog 30 #[.slice (some ⟨b, 0, none⟩) n cap, .int .i64 x] w (NewS w (bsyL F T x n).length fun i => (((bsyL F T x n).getD i 0 : Nat) : Int)) := by
  obtain ⟨⟨_, g6⟩, _⟩ := plV_iff.1 h
  have HI := hid (isPlan_any b cap n F T w (by omega) h1 hR)
  rw [h] at HI
  have HR := hid hR
  clear hR h
  obtain ⟨i0, hi0, hz0, hz1, hz2⟩ := info_parts intInfo9
  have HS := AllLt.start w; go_enter Try.func30, Try.ntmps30
  go_wp2_with fail
  (with_reducible refine HI.out.mono ?_)
  rintro e w2 ⟨rfl, hb⟩
  have HB2 := hid hb
  clear hb HI
  go_wp2_with fail
  go_loopw [13, 5] (fun u v wr => ∃ k : Nat, k ≤ n ∧ u = .int .i64 k ∧ Hid (wr.ownsRow w.heap.size 3 1 v (bsyL F T x k).length (intC (bsyL F T x k))) ∧ Hid (Below w.heap.size w wr)) (fun u _ _ => n - (intOf u).toNat)
  case atStart => exact ⟨0, by omega, rfl, hid (World.ownsRow_nil _ _ _ _), HB2⟩
  case round =>
    obtain ⟨k, hk, rfl, HO, HB⟩ := hrel
    clear HS HB2
    obtain ⟨wi, rfl⟩ : ∃ wi : World, wi = wr := ⟨_, rfl⟩
    by_cases hkl : k < n
    · have hdi : decide ((k : Int) < (n : Int)) = true := by simp; omega
      have hdj : decide (k < n) = true := by simp; omega
      obtain ⟨c0, c1⟩ := (HR.out.below HB.out).2 k hkl
      have HOA := hid (HO.out.alloc (.cells #[.int .i64 (F k), .int .i64 (T k)] 41))
      have HBA := hid (HB.out.alloc HB.out.size (.cells #[.int .i64 (F k), .int .i64 (T k)] 41))
      have hbl := bsyL_len F T x k
      by_cases hf : F k ≤ x
      · by_cases ht : x < T k
        · have HL := hid (bsyL_hit (F := F) (T := T) (x := x) (k := k) (by simp [bsyP, hf, ht]))
          generalize F k = y at *
          generalize T k = z at *
          have q1 : decide (y ≤ x) = true := decide_eq_true hf
          have q2 : decide (x < z) = true := decide_eq_true ht
          clear hf ht
          go_wp2_with (at_builtin; refine wpList_append_own _ rfl _ _ 29 rfl w.heap.size 3 i0 _ 1 8 Try.underlying29 hi0 hz0 hz1 hz2 rfl (by decide) _ _ _ rfl (HOA.out.alloc _) ⟨wi.heap.size + 1, 0, none⟩ 1 1 [.int .i64 ((k : Nat) : Int)] rfl rfl ?c1 ?c2 ?c3 ?c4 ?c5 ?_)
          case c1 =>
            intro j u hj
            match j, hj with
            | 0, hj => simp at hj; subst hj; simp [Addr.add]
          case c2 => intro u hu; simp at hu; subst hu; rfl
          case c3 => unfold maxLen; omega
          case c4 => omega
          case c5 => have := HB.out.size; simp; omega
          intro v' w3 hown' hgrow _
          have HO3 : Hid (w3.ownsRow w.heap.size 3 1 v' (bsyL F T x (k + 1)).length (intC (bsyL F T x (k + 1)))) := hid (by
            rw [HL.out, intC_snoc, List.length_append]; exact hown')
          have HB3 := hid ((HBA.out.alloc (by have := HB.out.size; simp; omega) _).grown hgrow (by have := HB.out.size; simp; omega) (fun j hj => (HOA.out.lt j hj).1))
          clear hown' hgrow
          go_wp2
          go_roundw
          case rel => exact ⟨k + 1, by omega, by go_num, HO3, HB3⟩
          case measure => simp [intOf]; omega
        · have HL := hid (bsyL_miss (F := F) (T := T) (x := x) (k := k) (by simp [bsyP, ht]))
          generalize F k = y at *
          generalize T k = z at *
          have q1 : decide (y ≤ x) = true := decide_eq_true hf
          have q2 : decide (x < z) = false := decide_eq_false ht
          clear hf ht
          go_wp2_with fail
          go_roundw
          case rel => exact ⟨k + 1, by omega, by go_num, by rw [HL.out]; exact HOA, HBA⟩
          case measure => simp [intOf]; omega
      · have HL := hid (bsyL_miss (F := F) (T := T) (x := x) (k := k) (by simp [bsyP, hf]))
        generalize F k = y at *
        generalize T k = z at *
        have q1 : decide (y ≤ x) = false := decide_eq_false hf
        clear hf
        go_wp2_with fail
        go_roundw
        case rel => exact ⟨k + 1, by omega, by go_num, by rw [HL.out]; exact HOA, HBA⟩
        case measure => simp [intOf]; omega
    · obtain rfl : k = n := by omega
      have hdi : decide ((k : Int) < (k : Int)) = false := by simp
      go_wp2
      go_ret
      exact ⟨_, rfl, own_newSl HO.out HB.out⟩
set_option maxHeartbeats 1000000 in
theorem l8Busy_any (b cap n : Nat) (F T : Nat → Int) (x : Int) (w : World) (g6 : n ≤ 6) (h1 : n ≤ cap) (hR : Rv w b n F T) :
    Calls Try.prog 40 #[.slice (some ⟨b, 0, none⟩) n cap, .int .i64 x] w (NewS w (bsyL F T x n).length fun i => (((bsyL F T x n).getD i 0 : Nat) : Int)) := by
  have HR := hid hR
  clear hR
  obtain ⟨i0, hi0, hz0, hz1, hz2⟩ := info_parts intInfo9
  have HS := AllLt.start w; go_enter Try.func40, Try.ntmps40
  go_wp2_with fail
  go_loopw [6, 5] (fun u v wr => ∃ k : Nat, k ≤ n ∧ u = .int .i64 k ∧ Hid (wr.ownsRow w.heap.size 3 1 v (bsyL F T x k).length (intC (bsyL F T x k))) ∧ Hid (Below w.heap.size w wr)) (fun u _ _ => n - (intOf u).toNat)
  case atStart => exact ⟨0, by omega, rfl, hid (World.ownsRow_made w #[] 0 (Nat.le_refl _) (by decide) rfl), hid ((Below.refl _ _).alloc (Nat.le_refl _) _)⟩
  case round =>
    obtain ⟨k, hk, rfl, HO, HB⟩ := hrel
    clear HS
    obtain ⟨wi, rfl⟩ : ∃ wi : World, wi = wr := ⟨_, rfl⟩
    by_cases hkl : k < n
    · have hdi : decide ((k : Int) < (n : Int)) = true := by simp; omega
      have hdj : decide (k < n) = true := by simp; omega
      obtain ⟨c0, c1⟩ := (HR.out.below HB.out).2 k hkl
      have hbl := bsyL_len F T x k
      by_cases hf : F k ≤ x
      · by_cases ht : x < T k
        · have HL := hid (bsyL_hit (F := F) (T := T) (x := x) (k := k) (by simp [bsyP, hf, ht]))
          generalize F k = y at *
          generalize T k = z at *
          have q1 : decide (y ≤ x) = true := decide_eq_true hf
          have q2 : decide (x < z) = true := decide_eq_true ht
          clear hf ht
          go_wp2_with (at_builtin; refine wpList_append_own _ rfl _ _ 29 rfl w.heap.size 3 i0 _ 1 8 Try.underlying29 hi0 hz0 hz1 hz2 rfl (by decide) _ _ _ rfl (HO.out.alloc _) ⟨wi.heap.size, 0, none⟩ 1 1 [.int .i64 ((k : Nat) : Int)] rfl rfl ?c1 ?c2 ?c3 ?c4 ?c5 ?_)
          case c1 =>
            intro j u hj
            match j, hj with
            | 0, hj => simp at hj; subst hj; simp [Addr.add]
          case c2 => intro u hu; simp at hu; subst hu; rfl
          case c3 => unfold maxLen; omega
          case c4 => omega
          case c5 => have := HB.out.size; simp; omega
          intro v' w3 hown' hgrow _
          have HO3 : Hid (w3.ownsRow w.heap.size 3 1 v' (bsyL F T x (k + 1)).length (intC (bsyL F T x (k + 1)))) := hid (by
            rw [HL.out, intC_snoc, List.length_append]; exact hown')
          have HB3 := hid ((HB.out.alloc (by have := HB.out.size; simp; omega) _).grown hgrow (by have := HB.out.size; simp; omega) (fun j hj => (HO.out.lt j hj).1))
          clear hown' hgrow
          go_wp2
          go_roundw
          case rel => exact ⟨k + 1, by omega, by go_num, HO3, HB3⟩
          case measure => simp [intOf]; omega
        · have HL := hid (bsyL_miss (F := F) (T := T) (x := x) (k := k) (by simp [bsyP, ht]))
          generalize F k = y at *
          generalize T k = z at *
          have q1 : decide (y ≤ x) = true := decide_eq_true hf
          have q2 : decide (x < z) = false := decide_eq_false ht
          clear hf ht
          go_wp2_with fail
          go_roundw
          case rel => exact ⟨k + 1, by omega, by go_num, by rw [HL.out]; exact HO, HB⟩
          case measure => simp [intOf]; omega
      · have HL := hid (bsyL_miss (F := F) (T := T) (x := x) (k := k) (by simp [bsyP, hf]))
        generalize F k = y at *
        generalize T k = z at *
        have q1 : decide (y ≤ x) = false := decide_eq_false hf
        clear hf
        go_wp2_with fail
        go_roundw
        case rel => exact ⟨k + 1, by omega, by go_num, by rw [HL.out]; exact HO, HB⟩
        case measure => simp [intOf]; omega
    · obtain rfl : k = n := by omega
      have hdi : decide ((k : Int) < (k : Int)) = false := by simp
      go_wp2
      go_ret
      exact ⟨_, rfl, own_newSl HO.out HB.out⟩
theorem sBusyAt_zero (a : Option Addr) (c : Nat) (x : Int) (w : World) :
    Calls Try.prog 31 #[.slice a 0 c, .int .i64 x] w (NewS w 0 fun _ => 0) := by
  have HS := AllLt.start w; go_enter Try.func31, Try.ntmps31
  go_wp2_with fail
  (with_reducible refine (l5All_zero _ _ _).mono ?_)
  rintro e w2 ⟨rfl, hb⟩
  have HB := hid hb
  clear hb
  go_wp2_with fail
  go_ret
  exact ⟨_, rfl, HB.out.alloc HB.out.size _, .inl ⟨rfl, _, _, rfl⟩⟩
theorem sBusyAt_off (b cap n : Nat) (F T : Nat → Int) (x : Int) (w : World) (hn : n ≤ 4611686018427387904) (h1 : n ≤ cap) (hR : Rv w b n F T) (h : plV n F T = false) :
    Calls Try.prog 31 #[.slice (some ⟨b, 0, none⟩) n cap, .int .i64 x] w (NewS w 0 fun _ => 0) := by
  have HI := hid (l5All_any b cap n F T w hn h1 hR)
  rw [h] at HI
  clear hR h
  have HS := AllLt.start w; go_enter Try.func31, Try.ntmps31
  go_wp2_with fail
  (with_reducible refine HI.out.mono ?_)
  rintro e w2 ⟨rfl, hb⟩
  have HB := hid hb
  clear hb
  go_wp2_with fail
  go_ret
  exact ⟨_, rfl, HB.out.alloc HB.out.size _, .inl ⟨rfl, _, _, rfl⟩⟩
theorem sBusyAt_on (b cap n : Nat) (F T : Nat → Int) (x : Int) (w : World) (h1 : n ≤ cap) (hR : Rv w b n F T) (h : plV n F T = true) :
    Calls Try.prog 31 #[.slice (some ⟨b, 0, none⟩) n cap, .int .i64 x] w (NewS w (bsyL F T x n).length fun i => (((bsyL F T x n).getD i 0 : Nat) : Int)) := by
  obtain ⟨⟨_, g6⟩, _⟩ := plV_iff.1 h
  have HI := hid (l5All_any b cap n F T w (by omega) h1 hR)
  rw [h] at HI
  have HR := hid hR
  clear hR h
  have HS := AllLt.start w; go_enter Try.func31, Try.ntmps31
  go_wp2_with fail
  (with_reducible refine HI.out.mono ?_)
  rintro e w2 ⟨rfl, hb⟩
  have HB2 := hid hb
  clear hb HI
  go_wp2_with fail
  (with_reducible refine (l8Busy_any _ _ _ _ _ _ _ g6 h1 (HR.out.below HB2.out)).mono ?_)
  rintro e w3 ⟨v, rfl, hv⟩
  have HV := hid hv
  clear hv
  go_wp2_with fail
  go_ret
  exact ⟨_, rfl, HV.out.from HB2.out⟩
end Go.Proofs.Ytmdgkhebefnfeab.C
