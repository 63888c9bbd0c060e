/- The model: whether a network is closed, and the closed network; the exact law of IsClosed. The program: the closed network, whether closing shows that there is no model. The model: closing a network. The model: the closed network, whether closing shows that there is no model; the exact laws. -/
import Derived.Test.YtlmmjdaipedjjaaDoorCloL
import Derived.Test.YtlmmjdaipedjjaaDoorCloF
import Derived.Test.YtlmmjdaipedjjaaDoorCloX
import Derived.Test.YtlmmjdaipedjjaaDoorNetR
import Derived.Deep.DeepCutAuto
namespace Go.Proofs.YtlmmjdaipedjjaaDoor.C
section
open Go.RowKit
set_option linter.unusedVariables false
set_option linter.unusedSimpArgs false
theorem pass_cls {n : Nat} {R : Nat → Nat → Nat} : ((((passL n (R, []) (edL n)).2.length : Nat) : Int) == 0) = clsB n R := by
  rw [Bool.eq_iff_iff, clsB_iff, beq_iff_eq]
  constructor
  · intro h
    exact (passL_quiet (s := (R, [])) (show (passL n (R, []) (edL n)).2.length = 0 by omega)).2
  · intro h
    rw [passL_stb (s := (R, [])) h]; rfl
theorem own_slice {w : World} {b T sz n : Nat} {v : Value} {xs : List Value} (h : w.ownsRow b T sz v n xs) : ∃ a c, v = .slice a n c := by
  rcases h.2 with ⟨hv, h0⟩ | ⟨g, cap, cur, hv, _⟩
  · exact ⟨_, _, by rw [hv, h0]⟩
  · exact ⟨_, _, hv⟩
set_option maxHeartbeats 4000000 in
set_option maxRecDepth 100000 in
theorem sIsClosed_any (z : Int) (s : ByteArray) (w : World) :
    Calls Tryd.prog 26 #[.agg #[.int .i64 z, .string s]] w fun e w' => e = .returned (.bool (clsI z s)) ∧ Below w.heap.size w w' := by
  rcases nv_cases z s with h | ⟨n, R, hR, rfl, rfl⟩
  · have HNV := hid h
    have HR := hid (clsI_no h)
    clear h
    have HS := AllLt.start w; have hn2 := lt2; have hn3 := lt3; have hn4 := lt4; go_enter Tryd.func26, Tryd.ntmps26
    go_wp2_with (first | (go_at_call 41; (with_reducible refine (sNetValid_any z s _).mono ?_); rintro e w' ⟨rfl, hb⟩; obtain ⟨HB, hz0, hz, hc, hf⟩ := bst (w0 := w) (by go_grown) hb; clear hb; (try simp at hz); (first | ((refine HS.g5 (m := w'.heap.size) ?_ ?_); (focus omega); intro HS) | ((refine HS.g4 (m := w'.heap.size) ?_ ?_); (focus omega); intro HS) | ((refine HS.g3 (m := w'.heap.size) ?_ ?_); (focus omega); intro HS) | ((refine HS.g2 (m := w'.heap.size) ?_ ?_); (focus omega); intro HS) | ((refine HS.g1 (m := w'.heap.size) ?_ ?_); (focus omega); intro HS) | ((refine HS.g0 (m := w'.heap.size) ?_ ?_); (focus omega); intro HS)); have HU := HS; simp only [AllLt] at HU; rw [HNV.out]))
    go_ret
    exact ⟨ret_bool HR.out.symm, by (repeat' (first | (with_reducible exact Below.refl _ _) | (with_reducible refine Below.setCell ?_ ?_ _) | (with_reducible refine below_drewN' ?_ _) | (with_reducible refine below_drew' ?_) | (with_reducible refine Below.alloc ?_ ?_ _) | (with_reducible assumption) | go_size))⟩
  · have HNV := hid (nv_net hR)
    have HV := hid ((clsI_yes hR).trans pass_cls.symm)
    have HOP := hid (l5Open_any n hR.le R hR.lt)
    have HOK := hid hR
    have hpos : 0 < n * n := Nat.mul_pos hR.pos hR.pos
    clear hR
    generalize netS n R = s at *
    have HI0 := hid (SI.made w (n : Int) s 26)
    have HS := AllLt.start w; have hn2 := lt2; have hn3 := lt3; have hn4 := lt4; go_enter Tryd.func26, Tryd.ntmps26
    go_wp2_with fail
    (with_reducible refine (sNetValid_any n s _).mono ?_)
    rintro e w1 ⟨rfl, hb⟩
    rw [HNV.out]
    have HI1 := hid (HI0.out.below hb)
    have q0 := HI1.out.a0
    have q1 := HI1.out.a1
    have hl := HI1.out.lt
    clear hb HI0 HS
    have HS := AllLt.start w1
    go_wp2_with fail
    go_region_held3 (fun wx => wx.cell? ⟨w.heap.size, 0, none⟩ = some (.int .i64 (n : Int)) ∧ wx.cell? ⟨w.heap.size, 1, none⟩ = some (.string s)) (first | exact ⟨q0, q1⟩ | exact ⟨(Below.cell (B := w1.heap.size) (w := w1) (p := ⟨w.heap.size, 0, none⟩) (by go_grown) hl).trans q0, (Below.cell (B := w1.heap.size) (w := w1) (p := ⟨w.heap.size, 1, none⟩) (by go_grown) hl).trans q1⟩)
      (first
        | (go_at_call 56; (with_reducible refine (l3Table_any _).mono ?_); rintro e w' ⟨⟨o, rfl, ho, htab⟩, hb⟩; have HOW := hid (own_below' HOW.out hb); have HTB := hid htab; clear htab ho; obtain ⟨HB, hz0, hz, hc, hf⟩ := bst (w0 := w1) (by go_grown) hb; clear hb; (try simp at hz); (first | ((refine HS.g5 (m := w'.heap.size) ?_ ?_); (focus omega); intro HS) | ((refine HS.g4 (m := w'.heap.size) ?_ ?_); (focus omega); intro HS) | ((refine HS.g3 (m := w'.heap.size) ?_ ?_); (focus omega); intro HS) | ((refine HS.g2 (m := w'.heap.size) ?_ ?_); (focus omega); intro HS) | ((refine HS.g1 (m := w'.heap.size) ?_ ?_); (focus omega); intro HS) | ((refine HS.g0 (m := w'.heap.size) ?_ ?_); (focus omega); intro HS)); have HU := HS; simp only [AllLt] at HU)
        | (go_at_call 56; (with_reducible refine (l3Table_any _).mono ?_); rintro e w' ⟨⟨o, rfl, ho, htab⟩, hb⟩; have HOW := hid (own_below' (HOW.out.alloc _) hb); have HTB := hid htab; clear htab ho; obtain ⟨HB, hz0, hz, hc, hf⟩ := bst (w0 := w1) (by go_grown) hb; clear hb; (try simp at hz); (first | ((refine HS.g5 (m := w'.heap.size) ?_ ?_); (focus omega); intro HS) | ((refine HS.g4 (m := w'.heap.size) ?_ ?_); (focus omega); intro HS) | ((refine HS.g3 (m := w'.heap.size) ?_ ?_); (focus omega); intro HS) | ((refine HS.g2 (m := w'.heap.size) ?_ ?_); (focus omega); intro HS) | ((refine HS.g1 (m := w'.heap.size) ?_ ?_); (focus omega); intro HS) | ((refine HS.g0 (m := w'.heap.size) ?_ ?_); (focus omega); intro HS)); have HU := HS; simp only [AllLt] at HU)
        | (go_at_call 56; (with_reducible refine (l3Table_any _).mono ?_); rintro e w' ⟨⟨o, rfl, ho, htab⟩, hb⟩; have HTB := hid htab; clear htab ho; obtain ⟨HB, hz0, hz, hc, hf⟩ := bst (w0 := w1) (by go_grown) hb; clear hb; (try simp at hz); (first | ((refine HS.g5 (m := w'.heap.size) ?_ ?_); (focus omega); intro HS) | ((refine HS.g4 (m := w'.heap.size) ?_ ?_); (focus omega); intro HS) | ((refine HS.g3 (m := w'.heap.size) ?_ ?_); (focus omega); intro HS) | ((refine HS.g2 (m := w'.heap.size) ?_ ?_); (focus omega); intro HS) | ((refine HS.g1 (m := w'.heap.size) ?_ ?_); (focus omega); intro HS) | ((refine HS.g0 (m := w'.heap.size) ?_ ?_); (focus omega); intro HS)); have HU := HS; simp only [AllLt] at HU)
        | (go_at_call 43; (with_reducible refine (HOP.out _).mono ?_); rintro e w' ⟨⟨u, he, hown⟩, hb⟩; obtain ⟨g, cap, rfl, hg1, hg2⟩ := hown.form hpos; subst he; have HTB := hid (HTB.out.below hb); have HOW := hid hown; clear hown hg1 hg2; obtain ⟨HB, hz0, hz, hc, hf⟩ := bst (w0 := w1) (by go_grown) hb; clear hb; (try simp at hz); (first | ((refine HS.g5 (m := w'.heap.size) ?_ ?_); (focus omega); intro HS) | ((refine HS.g4 (m := w'.heap.size) ?_ ?_); (focus omega); intro HS) | ((refine HS.g3 (m := w'.heap.size) ?_ ?_); (focus omega); intro HS) | ((refine HS.g2 (m := w'.heap.size) ?_ ?_); (focus omega); intro HS) | ((refine HS.g1 (m := w'.heap.size) ?_ ?_); (focus omega); intro HS) | ((refine HS.g0 (m := w'.heap.size) ?_ ?_); (focus omega); intro HS)); have HU := HS; simp only [AllLt] at HU)
        | (go_at_call 43; (with_reducible refine (HOP.out _).mono ?_); rintro e w' ⟨⟨u, he, hown⟩, hb⟩; obtain ⟨g, cap, rfl, hg1, hg2⟩ := hown.form hpos; subst he; have HTB := hid ((HTB.out.below ((Below.refl _ _).alloc (Nat.le_refl _) _)).below hb); have HOW := hid hown; clear hown hg1 hg2; obtain ⟨HB, hz0, hz, hc, hf⟩ := bst (w0 := w1) (by go_grown) hb; clear hb; (try simp at hz); (first | ((refine HS.g5 (m := w'.heap.size) ?_ ?_); (focus omega); intro HS) | ((refine HS.g4 (m := w'.heap.size) ?_ ?_); (focus omega); intro HS) | ((refine HS.g3 (m := w'.heap.size) ?_ ?_); (focus omega); intro HS) | ((refine HS.g2 (m := w'.heap.size) ?_ ?_); (focus omega); intro HS) | ((refine HS.g1 (m := w'.heap.size) ?_ ?_); (focus omega); intro HS) | ((refine HS.g0 (m := w'.heap.size) ?_ ?_); (focus omega); intro HS)); have HU := HS; simp only [AllLt] at HU)
        | (go_at_call 43; (with_reducible refine (HOP.out _).mono ?_); rintro e w' ⟨⟨u, he, hown⟩, hb⟩; obtain ⟨g, cap, rfl, hg1, hg2⟩ := hown.form hpos; subst he; have HOW := hid hown; clear hown hg1 hg2; obtain ⟨HB, hz0, hz, hc, hf⟩ := bst (w0 := w1) (by go_grown) hb; clear hb; (try simp at hz); (first | ((refine HS.g5 (m := w'.heap.size) ?_ ?_); (focus omega); intro HS) | ((refine HS.g4 (m := w'.heap.size) ?_ ?_); (focus omega); intro HS) | ((refine HS.g3 (m := w'.heap.size) ?_ ?_); (focus omega); intro HS) | ((refine HS.g2 (m := w'.heap.size) ?_ ?_); (focus omega); intro HS) | ((refine HS.g1 (m := w'.heap.size) ?_ ?_); (focus omega); intro HS) | ((refine HS.g0 (m := w'.heap.size) ?_ ?_); (focus omega); intro HS)); have HU := HS; simp only [AllLt] at HU)
        | (go_at_call 62; (with_reducible refine (l6Pass_any o n R HOK.out g cap _ _ (TC.of HTB.out) HTB.out.lt HOW.out).mono ?_); rintro e w' ⟨⟨g', cap', b', v, rfl, hown, hnt⟩, hb⟩; obtain ⟨av, cv, rfl⟩ := own_slice hnt; clear hown hnt; obtain ⟨HB, hz0, hz, hc, hf⟩ := bst (w0 := w1) (by go_grown) hb; clear hb; (try simp at hz); (first | ((refine HS.g5 (m := w'.heap.size) ?_ ?_); (focus omega); intro HS) | ((refine HS.g4 (m := w'.heap.size) ?_ ?_); (focus omega); intro HS) | ((refine HS.g3 (m := w'.heap.size) ?_ ?_); (focus omega); intro HS) | ((refine HS.g2 (m := w'.heap.size) ?_ ?_); (focus omega); intro HS) | ((refine HS.g1 (m := w'.heap.size) ?_ ?_); (focus omega); intro HS) | ((refine HS.g0 (m := w'.heap.size) ?_ ?_); (focus omega); intro HS)); have HU := HS; simp only [AllLt] at HU)
        | (go_at_call 62; (with_reducible refine (l6Pass_any o n R HOK.out g cap _ _ (TC.of (HTB.out.below ((Below.refl _ _).alloc (Nat.le_refl _) _))) (HTB.out.below ((Below.refl _ _).alloc (Nat.le_refl _) _)).lt (HOW.out.alloc _)).mono ?_); rintro e w' ⟨⟨g', cap', b', v, rfl, hown, hnt⟩, hb⟩; obtain ⟨av, cv, rfl⟩ := own_slice hnt; clear hown hnt; obtain ⟨HB, hz0, hz, hc, hf⟩ := bst (w0 := w1) (by go_grown) hb; clear hb; (try simp at hz); (first | ((refine HS.g5 (m := w'.heap.size) ?_ ?_); (focus omega); intro HS) | ((refine HS.g4 (m := w'.heap.size) ?_ ?_); (focus omega); intro HS) | ((refine HS.g3 (m := w'.heap.size) ?_ ?_); (focus omega); intro HS) | ((refine HS.g2 (m := w'.heap.size) ?_ ?_); (focus omega); intro HS) | ((refine HS.g1 (m := w'.heap.size) ?_ ?_); (focus omega); intro HS) | ((refine HS.g0 (m := w'.heap.size) ?_ ?_); (focus omega); intro HS)); have HU := HS; simp only [AllLt] at HU)
        | fail)
    all_goals
      go_wp2_with fail
      go_ret
      exact ⟨ret_bool HV.out.symm, HI1.out.bel.trans (Below.mono (show Below w1.heap.size w1 _ from by (repeat' (first | (with_reducible exact Below.refl _ _) | (with_reducible refine Below.setCell ?_ ?_ _) | (with_reducible refine below_drewN' ?_ _) | (with_reducible refine below_drew' ?_) | (with_reducible refine Below.alloc ?_ ?_ _) | (with_reducible assumption) | go_size))) HI1.out.bel.size)⟩
set_option maxHeartbeats 1000000 in
theorem walk_FnExactIsClosed (a00 : Int) (a01 : ByteArray) (w : World) (w00 : (Lit.int .i64 a00).wf = true) (w01 : a01.size ≤ maxLen) (hB : TB w) :
    Calls Tryd.prog 8 #[.agg #[.int .i64 a00, .string a01]] w fun e w' => e = .returned (.bool true) ∧ Below w.heap.size w w' := by
  have HT := hid hB
  clear hB w00
  by_cases hs : a01.size ≤ 1048576
  · have h0 : decide ((1048576 : Int) - (a01.size : Int) < 0) = false := by simp; omega
    have h1 : decide ((1048576 : Int) < (a01.size : Int)) = false := by simp; omega
    clear w01
    have HS := AllLt.start w; have hn2 := lt2; have hn3 := lt3; have hn4 := lt4; go_enter Tryd.func8, Tryd.ntmps8
    go_wp2_with (first | (go_at_call 14; (with_reducible refine (szNet_on a00 a01 hs _).mono ?_); rintro e w' ⟨rfl, hb⟩; obtain ⟨HB, hz0, hz, hc, hf⟩ := bst (w0 := w) (by go_grown) hb; clear hb; (try simp at hz); (first | ((refine HS.g5 (m := w'.heap.size) ?_ ?_); (focus omega); intro HS) | ((refine HS.g4 (m := w'.heap.size) ?_ ?_); (focus omega); intro HS) | ((refine HS.g3 (m := w'.heap.size) ?_ ?_); (focus omega); intro HS) | ((refine HS.g2 (m := w'.heap.size) ?_ ?_); (focus omega); intro HS) | ((refine HS.g1 (m := w'.heap.size) ?_ ?_); (focus omega); intro HS) | ((refine HS.g0 (m := w'.heap.size) ?_ ?_); (focus omega); intro HS)); have HU := HS; simp only [AllLt] at HU) | (go_at_call 16; (with_reducible refine (toNet_any _ _ _).mono ?_); rintro e w' ⟨rfl, hb⟩; obtain ⟨HB, hz0, hz, hc, hf⟩ := bst (w0 := w) (by go_grown) hb; clear hb; (try simp at hz); (first | ((refine HS.g5 (m := w'.heap.size) ?_ ?_); (focus omega); intro HS) | ((refine HS.g4 (m := w'.heap.size) ?_ ?_); (focus omega); intro HS) | ((refine HS.g3 (m := w'.heap.size) ?_ ?_); (focus omega); intro HS) | ((refine HS.g2 (m := w'.heap.size) ?_ ?_); (focus omega); intro HS) | ((refine HS.g1 (m := w'.heap.size) ?_ ?_); (focus omega); intro HS) | ((refine HS.g0 (m := w'.heap.size) ?_ ?_); (focus omega); intro HS)); have HU := HS; simp only [AllLt] at HU) | (go_at_call 26; (with_reducible refine (sIsClosed_any _ _ _).mono ?_); rintro e w' ⟨rfl, hb⟩; obtain ⟨HB, hz0, hz, hc, hf⟩ := bst (w0 := w) (by go_grown) hb; clear hb; (try simp at hz); (first | ((refine HS.g5 (m := w'.heap.size) ?_ ?_); (focus omega); intro HS) | ((refine HS.g4 (m := w'.heap.size) ?_ ?_); (focus omega); intro HS) | ((refine HS.g3 (m := w'.heap.size) ?_ ?_); (focus omega); intro HS) | ((refine HS.g2 (m := w'.heap.size) ?_ ?_); (focus omega); intro HS) | ((refine HS.g1 (m := w'.heap.size) ?_ ?_); (focus omega); intro HS) | ((refine HS.g0 (m := w'.heap.size) ?_ ?_); (focus omega); intro HS)); have HU := HS; simp only [AllLt] at HU) | (go_at_call 27; (with_reducible refine (iIsClosed_any _ _ _ (HT.out.below (by go_grown))).mono ?_); rintro e w' ⟨rfl, hb⟩; obtain ⟨HB, hz0, hz, hc, hf⟩ := bst (w0 := w) (by go_grown) hb; clear hb; (try simp at hz); (first | ((refine HS.g5 (m := w'.heap.size) ?_ ?_); (focus omega); intro HS) | ((refine HS.g4 (m := w'.heap.size) ?_ ?_); (focus omega); intro HS) | ((refine HS.g3 (m := w'.heap.size) ?_ ?_); (focus omega); intro HS) | ((refine HS.g2 (m := w'.heap.size) ?_ ?_); (focus omega); intro HS) | ((refine HS.g1 (m := w'.heap.size) ?_ ?_); (focus omega); intro HS) | ((refine HS.g0 (m := w'.heap.size) ?_ ?_); (focus omega); intro HS)); have HU := HS; simp only [AllLt] at HU))
    go_ret
    exact ⟨rfl, by (repeat' (first | (with_reducible exact Below.refl _ _) | (with_reducible refine Below.setCell ?_ ?_ _) | (with_reducible refine below_drewN' ?_ _) | (with_reducible refine below_drew' ?_) | (with_reducible refine Below.alloc ?_ ?_ _) | (with_reducible assumption) | go_size))⟩
  · have HS := AllLt.start w; have hn2 := lt2; have hn3 := lt3; have hn4 := lt4; go_enter Tryd.func8, Tryd.ntmps8
    go_wp2_with (first | (go_at_call 14; (with_reducible refine (szNet_off a00 a01 hs w01 _).mono ?_); rintro e w' ⟨rfl, hb⟩; obtain ⟨HB, hz0, hz, hc, hf⟩ := bst (w0 := w) (by go_grown) hb; clear hb; (try simp at hz); (first | ((refine HS.g5 (m := w'.heap.size) ?_ ?_); (focus omega); intro HS) | ((refine HS.g4 (m := w'.heap.size) ?_ ?_); (focus omega); intro HS) | ((refine HS.g3 (m := w'.heap.size) ?_ ?_); (focus omega); intro HS) | ((refine HS.g2 (m := w'.heap.size) ?_ ?_); (focus omega); intro HS) | ((refine HS.g1 (m := w'.heap.size) ?_ ?_); (focus omega); intro HS) | ((refine HS.g0 (m := w'.heap.size) ?_ ?_); (focus omega); intro HS)); have HU := HS; simp only [AllLt] at HU))
    go_ret
    exact ⟨rfl, by (repeat' (first | (with_reducible exact Below.refl _ _) | (with_reducible refine Below.setCell ?_ ?_ _) | (with_reducible refine below_drewN' ?_ _) | (with_reducible refine below_drew' ?_) | (with_reducible refine Below.alloc ?_ ?_ _) | (with_reducible assumption) | go_size))⟩
end
section
open Go.RowKit
set_option linter.unusedVariables false
set_option linter.unusedSimpArgs false
/-- What is returned as a network and two values. -/
theorem res_net3 {fn : Func} {p u v : Tmp} (h : fn.results = #[.cell p 53, .tmp u, .tmp v]) (tmps : Array Value) (w : World) (g n : Nat) (M : Nat → Nat → Nat) (x y : Value) (hp : tmps.getD p undef = .pointer (some ⟨g, 0, none⟩)) (hu : tmps.getD u undef = x) (hv : tmps.getD v undef = y) (hg : NB w g n M) :
    (results fn tmps).run Tryd.prog w = .ok (.tuple #[.agg (netV n M), x, y]) w := by
  obtain ⟨fs, hus⟩ := nUnd
  have hp' : tmps[p]?.getD undef = .pointer (some ⟨g, 0, none⟩) := by simpa using hp
  have hu' : tmps[u]?.getD undef = x := by simpa using hu
  have hv' : tmps[v]?.getD undef = y := by simpa using hv
  simp only [results, h]
  simp [asAddr, hp', hu', hv', Result.andThen, run_loadVar_row w g _ _ _ _ _ hg hus rfl (nInfo2 n M)]
set_option maxHeartbeats 1000000 in
theorem closedOf_no (z : Int) (s : ByteArray) (h : NV z s = false) (w : World) (hT : TB w) :
    Calls Tryd.prog 66 #[.agg #[.int .i64 z, .string s]] w fun e w' => e = .returned (.tuple #[.agg (netV 0 fun _ _ => 0), .slice none 0 0, .bool false]) ∧ Below w.heap.size w w' := by
  have HB := hid (((Below.refl w.heap.size w).alloc (Nat.le_refl _) (.cells #[.int .i64 z, .string s] 26)).alloc (by simp) (.cells (netV 0 fun _ _ => 0) 53))
  have HN0 := hid (show NB ((w.alloc (.cells #[.int .i64 z, .string s] 26)).alloc (.cells (netV 0 fun _ _ => 0) 53)) (w.heap.size + 1) 0 (fun _ _ => 0) by
    have h := NB.made (w.alloc (.cells #[.int .i64 z, .string s] 26)) 0 (fun _ _ => 0)
    rw [World.size_alloc] at h
    exact h)
  have hz : Hid (((w.alloc (.cells #[.int .i64 z, .string s] 26)).alloc (.cells (netV 0 fun _ _ => 0) 53)).heap.size = w.heap.size + 1 + 1) := hid (by rw [World.size_alloc, World.size_alloc])
  have HT := hid (hT.below HB.out)
  have HNV := hid h
  clear h hT
  have HS := AllLt.start w; go_enter Tryd.func66, Tryd.ntmps66
  go_wp2_with (refine al_net rfl rfl ?_)
  (with_reducible refine (networkOf_no z s HNV.out _ HT.out).mono ?_)
  rintro e w1 ⟨rfl, hb⟩
  have HB1 := hid (HB.out.trans (hb.mono HB.out.size))
  have HN1 := hid (HN0.out.below' hb)
  have hz1 : w.heap.size + 1 + 1 ≤ w1.heap.size := by have := hb.size; have := hz.out; omega
  have HB2 := hid (below_setRow (HB1.out.alloc HB1.out.size (.cells (netV 0 fun _ _ => 0) 53)) HB1.out.size (netV 0 fun _ _ => 0))
  have HN2 := hid ((HN1.out.alloc (.cells (netV 0 fun _ _ => 0) 53)).rowFar (b := w1.heap.size) (by omega) (netV 0 fun _ _ => 0))
  clear hb
  go_upto_region 2 with (first | refine al_net rfl rfl ?_ | refine st_net rfl _ _ rfl rfl rfl (NB.made w1 0 fun _ _ => 0) ?_)
  generalize (w1.alloc (.cells (netV 0 fun _ _ => 0) 53)).setRow w1.heap.size (netV 0 fun _ _ => 0) = w2 at *
  go_wp2_with (first | refine bu_net rfl rfl ?_ | refine st_net rfl _ _ rfl rfl rfl HN2.out ?_)
  refine bodyPost_ret (res_net3 rfl _ _ _ _ _ _ _ rfl rfl rfl (NB.row HN2.out _ _)) rfl ?_
  exact ⟨rfl, below_setRow HB2.out (by omega) _⟩
set_option maxHeartbeats 2000000 in
theorem closedOf_yes (n : Nat) (R : Nat → Nat → Nat) (hR : OkR n R) (w : World) (hT : TB w) :
    Calls Tryd.prog 66 #[.agg #[.int .i64 n, .string (netS n R)]] w fun e w' => (∃ v, e = .returned (.tuple #[.agg (netV n (cloR n R)), v, .bool true])) ∧ Below w.heap.size w w' := by
  have HNO := hid (networkOf_yes n R hR)
  have HOK := hid hR
  clear hR
  generalize netS n R = s at *
  have HB := hid (((Below.refl w.heap.size w).alloc (Nat.le_refl _) (.cells #[.int .i64 n, .string s] 26)).alloc (by simp) (.cells (netV 0 fun _ _ => 0) 53))
  have HN0 := hid (show NB ((w.alloc (.cells #[.int .i64 n, .string s] 26)).alloc (.cells (netV 0 fun _ _ => 0) 53)) (w.heap.size + 1) 0 (fun _ _ => 0) by
    have h := NB.made (w.alloc (.cells #[.int .i64 n, .string s] 26)) 0 (fun _ _ => 0)
    rw [World.size_alloc] at h
    exact h)
  have hz : Hid (((w.alloc (.cells #[.int .i64 n, .string s] 26)).alloc (.cells (netV 0 fun _ _ => 0) 53)).heap.size = w.heap.size + 1 + 1) := hid (by rw [World.size_alloc, World.size_alloc])
  have HT := hid (hT.below HB.out)
  have HT0 := hid hT
  clear hT
  have HS := AllLt.start w; go_enter Tryd.func66, Tryd.ntmps66
  go_wp2_with (refine al_net rfl rfl ?_)
  (with_reducible refine (HNO.out _ HT.out).mono ?_)
  rintro e w1 ⟨rfl, hb⟩
  have HB1 := hid (HB.out.trans (hb.mono HB.out.size))
  have HN1 := hid (HN0.out.below' hb)
  have hz1 : w.heap.size + 1 + 1 ≤ w1.heap.size := by have := hb.size; have := hz.out; omega
  have HB2 := hid (below_setRow (HB1.out.alloc HB1.out.size (.cells (netV 0 fun _ _ => 0) 53)) HB1.out.size (netV n R))
  have HN2 := hid ((HN1.out.alloc (.cells (netV 0 fun _ _ => 0) 53)).rowFar (b := w1.heap.size) (by omega) (netV n R))
  have HL2 := hid ((NB.made w1 0 fun _ _ => 0).row n R)
  clear hb
  go_upto_region 2 with (first | refine al_net rfl rfl ?_ | refine st_net rfl _ _ rfl rfl rfl (NB.made w1 0 fun _ _ => 0) ?_)
  generalize (w1.alloc (.cells (netV 0 fun _ _ => 0) 53)).setRow w1.heap.size (netV n R) = w2 at *
  go_wp2_with fail
  (with_reducible refine (allComp_any w2 (HT0.out.below HB2.out)).mono ?_)
  rintro e w3 ⟨⟨o, rfl, ho, hcb⟩, hb⟩
  have HB3 := hid (HB2.out.trans (hb.mono HB2.out.size))
  have HN3 := hid (HN2.out.below' hb)
  have HL3 := hid (HL2.out.below' hb)
  have HC3 := hid hcb
  have hlg := HL2.out.lt
  clear hb hcb
  go_wp2_with fail
  (with_reducible refine (close_any o w1.heap.size n R HOK.out w3 (HT0.out.below HB3.out) HC3.out.tc HC3.out.lt (by omega) HL3.out).mono ?_)
  rintro e w4 ⟨⟨v, rfl, hown⟩, hn4, hw4⟩
  have HB4 := hid (HB3.out.trans (hw4.below (by omega) HB3.out.size))
  have HN4 := hid (show NB w4 (w.heap.size + 1) 0 (fun _ _ => 0) from (hw4.block _ HN3.out.lt (by omega)).trans HN3.out)
  have HL4 := hid hn4
  clear hown hn4 hw4
  go_wp2_with (first | refine ld_net rfl _ rfl rfl HL4.out ?_ | refine st_net rfl _ _ rfl rfl rfl HN4.out ?_)
  refine bodyPost_ret (res_net3 rfl _ _ _ _ _ _ _ rfl rfl rfl (NB.row HN4.out _ _)) rfl ?_
  exact ⟨⟨_, rfl⟩, below_setRow HB4.out (by omega) _⟩
set_option maxHeartbeats 1000000 in
theorem iCloseNet_no (z : Int) (s : ByteArray) (h : NV z s = false) (w : World) (hT : TB w) :
    Calls Tryd.prog 29 #[.agg #[.int .i64 z, .string s]] w fun e w' => e = .returned (.tuple #[.agg #[.int .i64 0, .string ⟨#[]⟩], .bool false]) ∧ Below w.heap.size w w' := by
  have HK := hid (show Nk ((w.alloc (.cells #[.int .i64 z, .string s] 26)).alloc (.cells #[.int .i64 0, .string ⟨#[]⟩] 26)) (w.heap.size + 1) 0 ⟨#[]⟩ by
    have h := Nk.made (w.alloc (.cells #[.int .i64 z, .string s] 26)) 0 ⟨#[]⟩
    rw [World.size_alloc] at h
    exact h)
  have HB := hid (((Below.refl w.heap.size w).alloc (Nat.le_refl _) (.cells #[.int .i64 z, .string s] 26)).alloc (by simp) (.cells #[.int .i64 0, .string ⟨#[]⟩] 26))
  have hz : Hid (((w.alloc (.cells #[.int .i64 z, .string s] 26)).alloc (.cells #[.int .i64 0, .string ⟨#[]⟩] 26)).heap.size = w.heap.size + 1 + 1) := hid (by rw [World.size_alloc, World.size_alloc])
  have HT := hid (hT.below HB.out)
  have HNV := hid h
  clear h hT
  have HS := AllLt.start w; go_enter Tryd.func29, Tryd.ntmps29
  go_wp2_with fail
  (with_reducible refine (closedOf_no z s HNV.out _ HT.out).mono ?_)
  rintro e w1 ⟨rfl, hb⟩
  have HB1 := hid (HB.out.trans (hb.mono HB.out.size))
  have HK1 := hid (HK.out.below hb HK.out.lt)
  have hz1 : w.heap.size + 1 + 1 ≤ w1.heap.size := by have := hb.size; have := hz.out; omega
  have HB2 := hid (below_setRow (HB1.out.alloc HB1.out.size (.cells (netV 0 fun _ _ => 0) 53)) HB1.out.size (netV 0 fun _ _ => 0))
  have HK2 := hid (show Nk ((w1.alloc (.cells (netV 0 fun _ _ => 0) 53)).setRow w1.heap.size (netV 0 fun _ _ => 0)) (w.heap.size + 1) 0 ⟨#[]⟩ from by
    unfold Nk World.setRow
    rw [Array.getElem?_modify, if_neg (by omega)]
    exact (Below.heap_alloc w1 _ _ HK1.out.lt).trans HK1.out)
  clear hb
  go_upto_region 2 with (first | refine al_net rfl rfl ?_ | refine st_net rfl _ _ rfl rfl rfl (NB.made w1 0 fun _ _ => 0) ?_)
  generalize (w1.alloc (.cells (netV 0 fun _ _ => 0) 53)).setRow w1.heap.size (netV 0 fun _ _ => 0) = w2 at *
  have r0 := HK2.out.c0
  have r1 := HK2.out.c1
  have rf0 := HK2.out.fr 0
  have rf1 := HK2.out.fr 1
  go_wp2_with fail
  refine bodyPost_ret (by simp [results, Tryd.results29, go_sem, *]; try rfl) rfl ?_
  exact ⟨rfl, (HB2.out.setCell (p := ⟨w.heap.size + 1, 0, none⟩) (by simp) _).setCell (p := ⟨w.heap.size + 1, 1, none⟩) (by simp) _⟩
set_option maxHeartbeats 1000000 in
theorem iCloseNet_yes (n : Nat) (R : Nat → Nat → Nat) (hR : OkR n R) (w : World) (hT : TB w) :
    Calls Tryd.prog 29 #[.agg #[.int .i64 n, .string (netS n R)]] w fun e w' => e = .returned (.tuple #[.agg #[.int .i64 n, .string (netS n (cloR n R))], .bool true]) ∧ Below w.heap.size w w' := by
  have HN0 := hid (closedOf_yes n R hR)
  have HE := hid (net_any n hR.le (cloR n R) (cloR_ok hR).lt)
  clear hR
  generalize netS n R = s at *
  have HK := hid (show Nk ((w.alloc (.cells #[.int .i64 n, .string s] 26)).alloc (.cells #[.int .i64 0, .string ⟨#[]⟩] 26)) (w.heap.size + 1) 0 ⟨#[]⟩ by
    have h := Nk.made (w.alloc (.cells #[.int .i64 n, .string s] 26)) 0 ⟨#[]⟩
    rw [World.size_alloc] at h
    exact h)
  have HB := hid (((Below.refl w.heap.size w).alloc (Nat.le_refl _) (.cells #[.int .i64 n, .string s] 26)).alloc (by simp) (.cells #[.int .i64 0, .string ⟨#[]⟩] 26))
  have hz : Hid (((w.alloc (.cells #[.int .i64 n, .string s] 26)).alloc (.cells #[.int .i64 0, .string ⟨#[]⟩] 26)).heap.size = w.heap.size + 1 + 1) := hid (by rw [World.size_alloc, World.size_alloc])
  have HT := hid (hT.below HB.out)
  clear hT
  have HS := AllLt.start w; go_enter Tryd.func29, Tryd.ntmps29
  go_wp2_with fail
  (with_reducible refine (HN0.out _ HT.out).mono ?_)
  rintro e w1 ⟨⟨v, rfl⟩, hb⟩
  have HB1 := hid (HB.out.trans (hb.mono HB.out.size))
  have HK1 := hid (HK.out.below hb HK.out.lt)
  have hz1 : w.heap.size + 1 + 1 ≤ w1.heap.size := by have := hb.size; have := hz.out; omega
  have HB2 := hid (below_setRow (HB1.out.alloc HB1.out.size (.cells (netV 0 fun _ _ => 0) 53)) HB1.out.size (netV n (cloR n R)))
  have HK2 := hid (show Nk ((w1.alloc (.cells (netV 0 fun _ _ => 0) 53)).setRow w1.heap.size (netV n (cloR n R))) (w.heap.size + 1) 0 ⟨#[]⟩ from by
    unfold Nk World.setRow
    rw [Array.getElem?_modify, if_neg (by omega)]
    exact (Below.heap_alloc w1 _ _ HK1.out.lt).trans HK1.out)
  have HN2 := hid ((NB.made w1 0 fun _ _ => 0).row n (cloR n R))
  clear hb
  go_upto_region 2 with (first | refine al_net rfl rfl ?_ | refine st_net rfl _ _ rfl rfl rfl (NB.made w1 0 fun _ _ => 0) ?_)
  generalize (w1.alloc (.cells (netV 0 fun _ _ => 0) 53)).setRow w1.heap.size (netV n (cloR n R)) = w2 at *
  go_wp2_with (refine ld_net rfl _ rfl rfl HN2.out ?_)
  (with_reducible refine (HE.out _).mono ?_)
  rintro e w4 ⟨rfl, hb⟩
  have hk := HK2.out.below hb HK2.out.lt
  have HB4 := hid (HB2.out.trans (hb.mono HB2.out.size))
  have r0 := hk.c0
  have r1 := hk.c1
  have rf0 := hk.fr 0
  have rf1 := hk.fr 1
  clear hk hb
  go_wp2_with fail
  refine bodyPost_ret (by simp [results, Tryd.results29, go_sem, *]; try rfl) rfl ?_
  exact ⟨rfl, (HB4.out.setCell (p := ⟨w.heap.size + 1, 0, none⟩) (by simp) _).setCell (p := ⟨w.heap.size + 1, 1, none⟩) (by simp) _⟩
noncomputable def cemI (z : Int) (s : ByteArray) : Bool := NV z s && emp z.toNat (cloR z.toNat (mx z.toNat s))
theorem cemI_no {z : Int} {s : ByteArray} (h : NV z s = false) : cemI z s = false := by simp [cemI, h]
theorem cemI_yes {n : Nat} {R : Nat → Nat → Nat} (h : OkR n R) : cemI n (netS n R) = emp n (cloR n R) := by simp [cemI, nv_net h, mx_net h]
set_option maxHeartbeats 2000000 in
theorem iClosesEmpty_any (z : Int) (s : ByteArray) (w : World) (hT : TB w) :
    Calls Tryd.prog 32 #[.agg #[.int .i64 z, .string s]] w fun e w' => e = .returned (.bool (cemI z s)) ∧ Below w.heap.size w w' := by
  have HT := hid (hT.below ((Below.refl w.heap.size w).alloc (Nat.le_refl _) (.cells #[.int .i64 z, .string s] 26)))
  have HT0 := hid hT
  clear hT
  rcases nv_cases z s with h | ⟨n, R, hR, rfl, rfl⟩
  · have HNV := hid h
    clear h
    have HS := AllLt.start w; go_enter Tryd.func32, Tryd.ntmps32
    go_wp2_with fail
    (with_reducible refine (closedOf_no z s HNV.out _ HT.out).mono ?_)
    rintro e w1 ⟨rfl, hb⟩
    go_wp2_with (first | refine al_net rfl rfl ?_ | refine st_net rfl _ _ rfl rfl rfl (NB.made w1 0 fun _ _ => 0) ?_)
    go_ret
    exact ⟨ret_bool (cemI_no HNV.out).symm, below_setRow ((((Below.refl _ _).alloc (Nat.le_refl _) _).trans (hb.mono (by simp))).alloc (by have := hb.size; simp at this; omega) _) (by have := hb.size; simp at this; omega) _⟩
  · have HN := hid (closedOf_yes n R hR)
    have HCC := hid (cemI_yes hR)
    have h6 := hR.le
    have HLT := hid (cloR_ok hR).lt
    clear hR
    generalize netS n R = s at *
    have HS := AllLt.start w; go_enter Tryd.func32, Tryd.ntmps32
    go_wp2_with fail
    (with_reducible refine (HN.out _ HT.out).mono ?_)
    rintro e w1 ⟨⟨v, rfl⟩, hb⟩
    have HB0 := hid (below_setRow ((((Below.refl w.heap.size w).alloc (Nat.le_refl _) (.cells #[.int .i64 (n : Int), .string s] 26)).trans (hb.mono (by simp))).alloc (by have := hb.size; simp at this; omega) (.cells (netV 0 fun _ _ => 0) 53)) (show w.heap.size ≤ w1.heap.size by have := hb.size; simp at this; omega) (netV n (cloR n R)))
    have HN2 := hid ((NB.made w1 0 fun _ _ => 0).row n (cloR n R))
    clear hb
    go_upto_region 2 with (first | refine al_net rfl rfl ?_ | refine st_net rfl _ _ rfl rfl rfl (NB.made w1 0 fun _ _ => 0) ?_)
    generalize (w1.alloc (.cells (netV 0 fun _ _ => 0) 53)).setRow w1.heap.size (netV n (cloR n R)) = w2 at *
    have r0 := NB.run HN2.out
    go_wp2_with fail
    (with_reducible refine (isEmpty_any n h6 (cloR n R) HLT.out _ (HT0.out.below HB0.out)).mono ?_)
    rintro e w3 ⟨rfl, hb⟩
    have HB3 := hid (HB0.out.trans (hb.mono HB0.out.size))
    clear hb r0
    go_wp2_with fail
    go_ret
    exact ⟨ret_bool HCC.out.symm, HB3.out⟩
end
section
open Go.RowKit
set_option linter.unusedVariables false
set_option linter.unusedSimpArgs false
def lenOf : Value → Nat
  | .slice _ n _ => n
  | _ => 0
theorem strL_len (nt : List Nt) : (strL nt).length = nt.length * 1 := by simp [strL]
theorem strL_one (nt : List Nt) : ∀ u ∈ strL nt, u.oneCell' = true := by
  intro u hu
  obtain ⟨x, _, rfl⟩ := List.mem_map.1 hu
  rfl
theorem own_som {w : World} {b T sz n m : Nat} {a : Option Addr} {c : Nat} {xs : List Value} (h : w.ownsRow b T sz (.slice a m c) n xs) (hn : ¬ n = 0) : ∃ g, a = some ⟨g, 0, none⟩ ∧ b ≤ g := by
  rcases h.2 with ⟨_, h0⟩ | ⟨g, cap, cur, e, hB, _⟩
  · exact absurd h0 hn
  · injection e with e1
    exact ⟨g, e1, hB⟩
theorem tk_own {w : World} {x b sz m k c g : Nat} {z : Int} {v : Value} {xs : List Value} (h : Tk w x z v) (ho : w.ownsRow b 3 sz (.slice (some ⟨g, 0, none⟩) m c) k xs) : g ≠ x := by
  intro e
  rcases ho.2 with ⟨hv, _⟩ | ⟨g', cap, cur, hv, _, hg, _⟩
  · cases hv
  · cases hv
    subst e
    unfold Tk at h
    rw [h] at hg
    injection hg with hg
    injection hg with _ h2
    exact absurd h2 (by decide)
set_option maxHeartbeats 8000000 in
set_option maxRecDepth 100000 in
theorem l6Close_nn (o n nn : Nat) (hnn : nn = n * n) (R : Nat → Nat → Nat) (hR : OkR n R) (g cap b0 : Nat) (w : World) (hC : TC w o) (ho : o < w.heap.size) (hO : w.ownsRow b0 3 1 (.slice (some ⟨g, 0, none⟩) nn cap) nn (rowL (fl n R) nn)) :
    Calls Tryd.prog 64 #[.slice (some ⟨o, 0, none⟩) 169 169, .agg #[.int .i64 n, .slice (some ⟨g, 0, none⟩) nn cap]] w fun e w' => (∃ g' cap' b v, e = .returned (.tuple #[.agg #[.int .i64 n, .slice (some ⟨g', 0, none⟩) nn cap'], v]) ∧ w'.ownsRow b 3 1 (.slice (some ⟨g', 0, none⟩) nn cap') nn (rowL (fl n (cloR n R)) nn) ∧ w'.ownsRow w.heap.size 9 1 v (cloN n R).length (strL (cloN n R))) ∧ Below w.heap.size w w' := by
  obtain ⟨i0, hi0, hz0, hz1, hz2⟩ := info_parts strInfo
  have hgl := (hO.lt g rfl).2
  have HOK := hid hR
  have HNN := hid hnn
  have HP0 := hid (show PS w (((w.alloc (.cells #[.int .i64 (n : Int), .slice (some ⟨g, 0, none⟩) nn cap] 45)).alloc (.cells #[.int .i64 0, .slice none 0 0] 45)).alloc (.cells #[] 9)) n nn (R, []) (.slice (some ⟨w.heap.size + 1 + 1, 0, none⟩) 0 0) from by
    refine ⟨⟨g, cap, b0, ((Tk.made w n (.slice (some ⟨g, 0, none⟩) nn cap)).alloc _).alloc _, by omega, by omega, ((hO.alloc _).alloc _).alloc _⟩, ?_, ?_, (((Below.refl _ _).alloc (Nat.le_refl _) _).alloc (by simp) _).alloc (by simp; omega) _, by rw [World.size_alloc, World.size_alloc, World.size_alloc]; omega⟩
    · have h := World.ownsRow_made (base := w.heap.size + 1 + 1) (e := 9) (size := 1) ((w.alloc (.cells #[.int .i64 (n : Int), .slice (some ⟨g, 0, none⟩) nn cap] 45)).alloc (.cells #[.int .i64 0, .slice none 0 0] 45)) #[] 0 (by rw [World.size_alloc, World.size_alloc]; omega) (by decide) rfl
      rw [World.size_alloc, World.size_alloc] at h
      exact h
    · have h := Tk.made (w.alloc (.cells #[.int .i64 (n : Int), .slice (some ⟨g, 0, none⟩) nn cap] 45)) 0 (.slice none 0 0)
      rw [World.size_alloc] at h
      exact h.alloc _)
  have HMU := hid (mu_bd hR)
  have HC := hid hC
  clear hC hO hR hnn
  have HS := AllLt.start w; go_enter Tryd.func64, Tryd.ntmps64
  go_wp2_with fail
  go_loopw [6] (fun v wr => ∃ t : Nat, Hid (PS w wr n nn (itr n (R, []) t) v)) (fun v _ => 122865 - lenOf v)
  case atStart => exact ⟨0, HP0⟩
  case round =>
    obtain ⟨t, HP⟩ := hrel
    try clear HS
    clear HP0
    obtain ⟨wi, rfl⟩ : ∃ wi : World, wi = wr := ⟨_, rfl⟩
    have HOKs := hid (itr_ok (s := (R, [])) HOK.out t)
    have HNX := hid (show itr n (R, []) (t + 1) = ((passL n ((itr n (R, []) t).1, []) (edL n)).1, (itr n (R, []) t).2 ++ (passL n ((itr n (R, []) t).1, []) (edL n)).2) by
      have h := passL_app n (itr n (R, []) t).2 (edL n) (itr n (R, []) t).1 []
      rw [List.append_nil] at h; exact h)
    have HMX := hid (show (itr n (R, []) (t + 1)).2.length ≤ 122865 by
      have h1 : _ + _ ≤ 0 + mu n R := itr_mu (n := n) (R, []) (t + 1)
      have h2 := HMU.out
      omega)
    have HCL := hid (show (passL n ((itr n (R, []) t).1, []) (edL n)).2.length = 0 → (itr n (R, []) t).1 = cloR n R ∧ (itr n (R, []) t).2 = cloN n R from fun h => Cl.is ⟨⟨t, rfl⟩, (passL_quiet (s := ((itr n (R, []) t).1, [])) h).2⟩)
    generalize itr n (R, []) (t + 1) = s' at HNX HMX
    generalize hs : itr n (R, []) t = s at *
    have HIT : Hid (s' = itr n (R, []) (t + 1)) := hid (by
      rw [HNX.out]
      show _ = passL n (itr n (R, []) t) (edL n)
      rw [hs]
      have h := passL_app n s.2 (edL n) s.1 []
      rw [List.append_nil] at h; exact h.symm)
    clear hs
    obtain ⟨gt, capt, bt, HT, hg1, hg2, HO⟩ := HP.out.tk
    have t0 := HT.c0
    have t1 := HT.c1
    obtain ⟨av, cv, rfl⟩ := own_slc HP.out.nts
    have HLP := hid (l6Pass_nn o n nn HNN.out s.1 HOKs.out gt capt bt wi (fun x hx => (HP.out.bel.cell (p := ⟨o, x, none⟩) ho).trans (HC.out x hx)) (Nat.lt_of_lt_of_le ho HP.out.bel.size) HO)
    clear HT HO
    go_wp2_with fail
    (with_reducible refine HLP.out.mono ?_)
    rintro e w1 ⟨⟨g', cap', b', v', rfl, hown, hnt⟩, hb⟩
    obtain ⟨ca, cc, rfl⟩ := own_slc hnt
    clear HLP t0 t1
    generalize passL n (s.1, []) (edL n) = q at *
    obtain ⟨R3, ch⟩ := q
    have HP1 := hid (HP.out.below hb)
    have HBy := hid ((Below.refl w1.heap.size w1).alloc (Nat.le_refl _) (.cells #[.int .i64 (n : Int), .slice (some ⟨g', 0, none⟩) nn cap'] 45))
    have HP2 := hid (HP1.out.below HBy.out)
    have HY := hid (Tk.made w1 (n : Int) (.slice (some ⟨g', 0, none⟩) nn cap'))
    have HO2 := hid (own_below' hown HBy.out)
    have HN2 := hid (own_below' hnt HBy.out)
    have hny : Hid (∀ k, (Value.slice av s.2.length cv).ownBlock = some k → k < w1.heap.size) := hid (fun k hk => (HP1.out.nts.lt k hk).2)
    have hAy : w.heap.size + 1 + 1 + 1 ≤ w1.heap.size := HP1.out.siz
    clear hb hown hnt HP HP1
    go_upto_region 3 with fail
    generalize w1.alloc (.cells #[.int .i64 (n : Int), .slice (some ⟨g', 0, none⟩) nn cap'] 45) = w2 at *
    generalize w1.heap.size = y at *
    obtain ⟨gu, cu, bu, HTu, hu1, hu2, HOu⟩ := HP2.out.tk
    by_cases hch : ch.length = 0
    · have hdz : ((ch.length : Int) == 0) = true := by rw [hch]; rfl
      obtain ⟨e1, e2⟩ := HCL.out hch
      have t0 := HTu.c0
      have t1 := HTu.c1
      have r0 := HP2.out.res.c0
      have r1 := HP2.out.res.c1
      have rf0 := HP2.out.res.fr 0
      have rf1 := HP2.out.res.fr 1
      have HX1 := hid (own_far (own_far HOu (p := ⟨w.heap.size + 1, 0, none⟩) hu2 (.int .i64 (n : Int))) (p := ⟨w.heap.size + 1, 1, none⟩) hu2 (.slice (some ⟨gu, 0, none⟩) nn cu))
      have HX2 := hid (own_base (own_set (own_set HP2.out.nts (p := ⟨w.heap.size + 1, 0, none⟩) (show w.heap.size + 1 < w.heap.size + 1 + 1 by omega) (.int .i64 (n : Int))) (p := ⟨w.heap.size + 1, 1, none⟩) (show w.heap.size + 1 < w.heap.size + 1 + 1 by omega) (.slice (some ⟨gu, 0, none⟩) nn cu)) (show w.heap.size ≤ w.heap.size + 1 + 1 by omega))
      have HBE := hid ((HP2.out.bel.setCell (p := ⟨w.heap.size + 1, 0, none⟩) (show w.heap.size ≤ w.heap.size + 1 by omega) (.int .i64 (n : Int))).setCell (p := ⟨w.heap.size + 1, 1, none⟩) (show w.heap.size ≤ w.heap.size + 1 by omega) (.slice (some ⟨gu, 0, none⟩) nn cu))
      have HE1 := hid e1
      have HE2 := hid e2
      clear HTu HOu e1 e2
      go_wp2_with fail
      refine bodyPost_ret (by simp [results, Tryd.results64, go_sem, *]; try rfl) rfl ?_
      exact ⟨⟨gu, cu, bu, _, rfl, by rw [← HE1.out]; exact HX1.out, by rw [← HE2.out]; exact HX2.out⟩, HBE.out⟩
    · have hdz : ((ch.length : Int) == 0) = false := by rw [beq_eq_false_iff_ne]; omega
      obtain ⟨cg, rfl, hcg⟩ := own_som HN2.out hch
      have hln : s.2.length + ch.length ≤ 122865 := by
        have h := HMX.out
        rw [HNX.out] at h
        have h : (s.2 ++ ch).length ≤ 122865 := h
        rw [List.length_append] at h
        exact h
      clear HTu HOu
      go_wp2_with (at_builtin; go_loud (refine wpList_append_own _ rfl _ _ 71 rfl (w.heap.size + 1 + 1) 9 i0 _ 1 16 Tryd.underlying71 hi0 hz0 hz1 hz2 rfl (by decide) _ _ _ rfl HP2.out.nts ⟨cg, 0, none⟩ ch.length cc (strL ch) rfl (strL_len ch) (HN2.out.cells rfl) (strL_one ch) ?c3 ?c4 ?c5 ?_))
      case c3 => show s.2.length + ch.length ≤ maxLen; unfold maxLen; omega
      case c4 => show (s.2.length + ch.length) * 16 ≤ 140737488355328; omega
      case c5 => have := HP2.out.siz; omega
      intro v7 w7 hown7 hgrow _
      have hyl := HY.out.lt
      have hnl := HP2.out.nts.lt
      have HA7 : Hid (∃ g7 c7, Tk w7 w.heap.size n (.slice (some ⟨g7, 0, none⟩) nn c7)) := hid (by
        obtain ⟨gx, cx, bx, h1, _⟩ := HP2.out.tk
        exact ⟨gx, cx, (hgrow.block _ h1.lt (fun e => by have := (hnl _ e.symm).1; omega)).trans h1⟩)
      have HR7 : Hid (Tk w7 (w.heap.size + 1) 0 (.slice none 0 0)) := hid ((hgrow.block _ HP2.out.res.lt (fun e => by have := (hnl _ e.symm).1; omega)).trans HP2.out.res)
      have HY7 : Hid (Tk w7 y n (.slice (some ⟨g', 0, none⟩) nn cap')) := hid ((hgrow.block _ hyl (fun e => by have := hny.out _ e.symm; omega)).trans HY.out)
      have HO7 := hid (HO2.out.kept hgrow (.inr (own_diff HO2.out HP2.out.nts (by decide))))
      have HB7 := hid (HP2.out.bel.grown hgrow (by have := HP2.out.bel.size; omega) (fun j hj => by have := (hnl j hj).1; omega))
      have HZ7 : w.heap.size + 1 + 1 + 1 ≤ w7.heap.size := Nat.le_trans HP2.out.siz hgrow.size
      have HN7 : Hid (w7.ownsRow (w.heap.size + 1 + 1) 9 1 v7 (s.2 ++ ch).length (strL (s.2 ++ ch))) := hid (by
        rw [List.length_append, show strL (s.2 ++ ch) = strL s.2 ++ strL ch by simp [strL]]
        exact hown7)
      obtain ⟨g7, c7, HT7⟩ := HA7.out
      have hgA := tk_own HT7 HO7.out
      have hgR := tk_own HR7.out HO7.out
      have t0 := HT7.c0
      have t1 := HT7.c1
      have tf0 := HT7.fr 0
      have tf1 := HT7.fr 1
      have y0 := HY7.out.c0
      have y1 := HY7.out.c1
      have hAy2 : ¬ w.heap.size = y := by omega
      have HP8 := hid (show PS w ((w7.setCell ⟨w.heap.size, 0, none⟩ (.int .i64 (n : Int))).setCell ⟨w.heap.size, 1, none⟩ (.slice (some ⟨g', 0, none⟩) nn cap')) n nn s' v7 from by
        rw [HNX.out]
        exact ⟨⟨g', cap', b', HT7.set0.set1 _, hgA, hgR, own_far (own_far HO7.out (p := ⟨w.heap.size, 0, none⟩) hgA _) (p := ⟨w.heap.size, 1, none⟩) hgA _⟩, own_set (own_set HN7.out (p := ⟨w.heap.size, 0, none⟩) (show w.heap.size < w.heap.size + 1 + 1 by omega) _) (p := ⟨w.heap.size, 1, none⟩) (show w.heap.size < w.heap.size + 1 + 1 by omega) _, (HR7.out.far (p := ⟨w.heap.size, 0, none⟩) (show w.heap.size + 1 ≠ w.heap.size by omega) _).far (p := ⟨w.heap.size, 1, none⟩) (show w.heap.size + 1 ≠ w.heap.size by omega) _, (HB7.out.setCell (p := ⟨w.heap.size, 0, none⟩) (Nat.le_refl _) _).setCell (p := ⟨w.heap.size, 1, none⟩) (Nat.le_refl _) _, by simpa using HZ7⟩)
      obtain ⟨a7, k7, hv7⟩ := own_slc HN7.out
      have hm7 : lenOf v7 = s.2.length + ch.length := by rw [hv7, ← List.length_append]; rfl
      clear hown7 hgrow HT7 hv7
      go_wp2_with fail
      go_roundw
      case rel => exact ⟨t + 1, by rw [← HIT.out]; exact HP8⟩
      case measure => rw [hm7]; show 122865 - (s.2.length + ch.length) < 122865 - s.2.length; omega
theorem l6Close_any (o n : Nat) (R : Nat → Nat → Nat) (hR : OkR n R) (g cap b0 : Nat) (w : World) (hC : TC w o) (ho : o < w.heap.size) (hO : w.ownsRow b0 3 1 (.slice (some ⟨g, 0, none⟩) (n * n) cap) (n * n) (rowL (fl n R) (n * n))) :
    Calls Tryd.prog 64 #[.slice (some ⟨o, 0, none⟩) 169 169, .agg #[.int .i64 n, .slice (some ⟨g, 0, none⟩) (n * n) cap]] w fun e w' => (∃ g' cap' b v, e = .returned (.tuple #[.agg #[.int .i64 n, .slice (some ⟨g', 0, none⟩) (n * n) cap'], v]) ∧ w'.ownsRow b 3 1 (.slice (some ⟨g', 0, none⟩) (n * n) cap') (n * n) (rowL (fl n (cloR n R)) (n * n)) ∧ w'.ownsRow w.heap.size 9 1 v (cloN n R).length (strL (cloN n R))) ∧ Below w.heap.size w w' :=
  l6Close_nn o n (n * n) rfl R hR g cap b0 w hC ho hO
end
section
open Go.RowKit
set_option linter.unusedVariables false
set_option linter.unusedSimpArgs false
theorem Tk.put0 {w : World} {g : Nat} {z : Int} {v : Value} (h : Tk w g z v) (z' : Int) : Tk (w.setCell ⟨g, 0, none⟩ (.int .i64 z')) g z' v := by
  unfold Tk
  rw [heap_setCell_same _ _ _ _ _ _ h]; rfl
set_option maxHeartbeats 1000000 in
theorem sCloseNet_no (z : Int) (s : ByteArray) (h : NV z s = false) (w : World) :
    Calls Tryd.prog 28 #[.agg #[.int .i64 z, .string s]] w fun e w' => e = .returned (.tuple #[.agg #[.int .i64 0, .string ⟨#[]⟩], .bool false]) ∧ Below w.heap.size w w' := by
  have HK := hid (show Nk ((w.alloc (.cells #[.int .i64 z, .string s] 26)).alloc (.cells #[.int .i64 0, .string ⟨#[]⟩] 26)) (w.heap.size + 1) 0 ⟨#[]⟩ by
    have h := Nk.made (w.alloc (.cells #[.int .i64 z, .string s] 26)) 0 ⟨#[]⟩
    rw [World.size_alloc] at h
    exact h)
  have HB := hid (((Below.refl w.heap.size w).alloc (Nat.le_refl _) (.cells #[.int .i64 z, .string s] 26)).alloc (by simp) (.cells #[.int .i64 0, .string ⟨#[]⟩] 26))
  have HNV := hid h
  clear h
  have HS := AllLt.start w; go_enter Tryd.func28, Tryd.ntmps28
  go_wp2_with fail
  (with_reducible refine (sNetValid_any z s _).mono ?_)
  rintro e w1 ⟨rfl, hb⟩
  rw [HNV.out]
  have HB1 := hid (HB.out.trans (hb.mono HB.out.size))
  have hk := HK.out.below hb HK.out.lt
  have r0 := hk.c0
  have r1 := hk.c1
  have rf0 := hk.fr 0
  have rf1 := hk.fr 1
  clear hk hb
  go_wp2_with fail
  refine bodyPost_ret (by simp [results, Tryd.results28, go_sem, *]; try rfl) rfl ?_
  exact ⟨rfl, (HB1.out.setCell (p := ⟨w.heap.size + 1, 0, none⟩) (by simp) _).setCell (p := ⟨w.heap.size + 1, 1, none⟩) (by simp) _⟩
set_option maxHeartbeats 8000000 in
set_option maxRecDepth 100000 in
theorem sCloseNet_yes (n : Nat) (R : Nat → Nat → Nat) (hR : OkR n R) (w : World) :
    Calls Tryd.prog 28 #[.agg #[.int .i64 n, .string (netS n R)]] w fun e w' => e = .returned (.tuple #[.agg #[.int .i64 n, .string (netS n (cloR n R))], .bool true]) ∧ Below w.heap.size w w' := by
  have HNV := hid (nv_net hR)
  have HOP := hid (l5Open_any n hR.le R hR.lt)
  have HOK := hid hR
  have h36 : n * n ≤ 36 := Nat.mul_le_mul hR.le hR.le
  have hpos : 0 < n * n := Nat.mul_pos hR.pos hR.pos
  have HCT := hid (show catB (fl n (cloR n R)) (n * n) = netS n (cloR n R) from catB_net n (cloR n R))
  have HLT := hid (cloR_ok hR).lt
  clear hR
  generalize netS n (cloR n R) = t at *
  generalize netS n R = s at *
  have HK := hid (show Nk ((w.alloc (.cells #[.int .i64 n, .string s] 26)).alloc (.cells #[.int .i64 0, .string ⟨#[]⟩] 26)) (w.heap.size + 1) 0 ⟨#[]⟩ by
    have h := Nk.made (w.alloc (.cells #[.int .i64 n, .string s] 26)) 0 ⟨#[]⟩
    rw [World.size_alloc] at h
    exact h)
  have HKs := hid (nk_alloc (Nk.made w n s) (.cells #[.int .i64 0, .string ⟨#[]⟩] 26))
  have HB := hid (((Below.refl w.heap.size w).alloc (Nat.le_refl _) (.cells #[.int .i64 n, .string s] 26)).alloc (by simp) (.cells #[.int .i64 0, .string ⟨#[]⟩] 26))
  have hz : Hid (((w.alloc (.cells #[.int .i64 n, .string s] 26)).alloc (.cells #[.int .i64 0, .string ⟨#[]⟩] 26)).heap.size = w.heap.size + 1 + 1) := hid (by rw [World.size_alloc, World.size_alloc])
  have HS := AllLt.start w; have hn2 := lt2; have hn3 := lt3; have hn4 := lt4; go_enter Tryd.func28, Tryd.ntmps28
  go_wp2_with fail
  (with_reducible refine (sNetValid_any n s _).mono ?_)
  rintro e w1 ⟨rfl, hb⟩
  rw [HNV.out]
  have HB1 := hid (HB.out.trans (hb.mono HB.out.size))
  have HK1 := hid (HK.out.below hb HK.out.lt)
  have hks := HKs.out.below hb HKs.out.lt
  have hz1 : w.heap.size + 1 + 1 ≤ w1.heap.size := by have := hb.size; have := hz.out; omega
  have hl : w.heap.size < w1.heap.size := by omega
  have q0 := hks.c0
  have q1 := hks.c1
  clear hks hb HS
  have HS := AllLt.start w1
  go_upto_region 3 with fail
  go_cut [4] (fun s4 wx => ∃ x g cap b : Nat, s4 = .pointer (some ⟨x, 0, none⟩) ∧ Tk wx x n (.slice (some ⟨g, 0, none⟩) (n * n) cap) ∧ wx.ownsRow b 3 1 (.slice (some ⟨g, 0, none⟩) (n * n) cap) (n * n) (rowL (fl n (cloR n R)) (n * n)) ∧ Below w1.heap.size w1 wx)
  case first =>
    go_region_held3 (fun wx => wx.cell? ⟨w.heap.size, 0, none⟩ = some (.int .i64 (n : Int)) ∧ wx.cell? ⟨w.heap.size, 1, none⟩ = some (.string s)) (first | exact ⟨q0, q1⟩ | exact ⟨(Below.cell (B := w1.heap.size) (w := w1) (p := ⟨w.heap.size, 0, none⟩) (by go_grown) hl).trans q0, (Below.cell (B := w1.heap.size) (w := w1) (p := ⟨w.heap.size, 1, none⟩) (by go_grown) hl).trans q1⟩)
      (first
        | (go_at_call 56; (with_reducible refine (l3Table_any _).mono ?_); rintro e w' ⟨⟨o, rfl, ho, htab⟩, hb⟩; have HOW := hid (own_below' HOW.out hb); have HTB := hid htab; (first | have HXB := hid (HXB.out.below hb HXB.out.lt) | have HXB := hid ((Tk.made _ 0 (.slice none 0 0)).below hb (Tk.made _ _ _).lt) | have HXB := hid ((show Tk (w1.alloc (.cells #[.int .i64 0, .slice none 0 0] 45)).drew w1.heap.size 0 (.slice none 0 0) from Tk.made w1 0 _).below hb (Tk.made w1 0 (.slice none 0 0)).lt) | skip); clear htab ho; obtain ⟨HB, hz0, hz, hc, hf⟩ := bst (w0 := w1) (by go_grown) hb; clear hb; (try simp at hz); (first | ((refine HS.g5 (m := w'.heap.size) ?_ ?_); (focus omega); intro HS) | ((refine HS.g4 (m := w'.heap.size) ?_ ?_); (focus omega); intro HS) | ((refine HS.g3 (m := w'.heap.size) ?_ ?_); (focus omega); intro HS) | ((refine HS.g2 (m := w'.heap.size) ?_ ?_); (focus omega); intro HS) | ((refine HS.g1 (m := w'.heap.size) ?_ ?_); (focus omega); intro HS) | ((refine HS.g0 (m := w'.heap.size) ?_ ?_); (focus omega); intro HS)); have HU := HS; simp only [AllLt] at HU)
        | (go_at_call 56; (with_reducible refine (l3Table_any _).mono ?_); rintro e w' ⟨⟨o, rfl, ho, htab⟩, hb⟩; have HOW := hid (own_below' (HOW.out.alloc _) hb); have HTB := hid htab; (first | have HXB := hid (HXB.out.below hb HXB.out.lt) | have HXB := hid ((Tk.made _ 0 (.slice none 0 0)).below hb (Tk.made _ _ _).lt) | have HXB := hid ((show Tk (w1.alloc (.cells #[.int .i64 0, .slice none 0 0] 45)).drew w1.heap.size 0 (.slice none 0 0) from Tk.made w1 0 _).below hb (Tk.made w1 0 (.slice none 0 0)).lt) | skip); clear htab ho; obtain ⟨HB, hz0, hz, hc, hf⟩ := bst (w0 := w1) (by go_grown) hb; clear hb; (try simp at hz); (first | ((refine HS.g5 (m := w'.heap.size) ?_ ?_); (focus omega); intro HS) | ((refine HS.g4 (m := w'.heap.size) ?_ ?_); (focus omega); intro HS) | ((refine HS.g3 (m := w'.heap.size) ?_ ?_); (focus omega); intro HS) | ((refine HS.g2 (m := w'.heap.size) ?_ ?_); (focus omega); intro HS) | ((refine HS.g1 (m := w'.heap.size) ?_ ?_); (focus omega); intro HS) | ((refine HS.g0 (m := w'.heap.size) ?_ ?_); (focus omega); intro HS)); have HU := HS; simp only [AllLt] at HU)
        | (go_at_call 56; (with_reducible refine (l3Table_any _).mono ?_); rintro e w' ⟨⟨o, rfl, ho, htab⟩, hb⟩; have HTB := hid htab; (first | have HXB := hid (HXB.out.below hb HXB.out.lt) | have HXB := hid ((Tk.made _ 0 (.slice none 0 0)).below hb (Tk.made _ _ _).lt) | have HXB := hid ((show Tk (w1.alloc (.cells #[.int .i64 0, .slice none 0 0] 45)).drew w1.heap.size 0 (.slice none 0 0) from Tk.made w1 0 _).below hb (Tk.made w1 0 (.slice none 0 0)).lt) | skip); clear htab ho; obtain ⟨HB, hz0, hz, hc, hf⟩ := bst (w0 := w1) (by go_grown) hb; clear hb; (try simp at hz); (first | ((refine HS.g5 (m := w'.heap.size) ?_ ?_); (focus omega); intro HS) | ((refine HS.g4 (m := w'.heap.size) ?_ ?_); (focus omega); intro HS) | ((refine HS.g3 (m := w'.heap.size) ?_ ?_); (focus omega); intro HS) | ((refine HS.g2 (m := w'.heap.size) ?_ ?_); (focus omega); intro HS) | ((refine HS.g1 (m := w'.heap.size) ?_ ?_); (focus omega); intro HS) | ((refine HS.g0 (m := w'.heap.size) ?_ ?_); (focus omega); intro HS)); have HU := HS; simp only [AllLt] at HU)
        | (go_at_call 43; (with_reducible refine (HOP.out _).mono ?_); rintro e w' ⟨⟨u, he, hown⟩, hb⟩; obtain ⟨g, cap, rfl, hg1, hg2⟩ := hown.form hpos; subst he; have HTB := hid (HTB.out.below hb); have HOW := hid hown; (first | have HXB := hid (HXB.out.below hb HXB.out.lt) | have HXB := hid ((Tk.made _ 0 (.slice none 0 0)).below hb (Tk.made _ _ _).lt) | have HXB := hid ((show Tk (w1.alloc (.cells #[.int .i64 0, .slice none 0 0] 45)).drew w1.heap.size 0 (.slice none 0 0) from Tk.made w1 0 _).below hb (Tk.made w1 0 (.slice none 0 0)).lt) | skip); clear hown hg1 hg2; obtain ⟨HB, hz0, hz, hc, hf⟩ := bst (w0 := w1) (by go_grown) hb; clear hb; (try simp at hz); (first | ((refine HS.g5 (m := w'.heap.size) ?_ ?_); (focus omega); intro HS) | ((refine HS.g4 (m := w'.heap.size) ?_ ?_); (focus omega); intro HS) | ((refine HS.g3 (m := w'.heap.size) ?_ ?_); (focus omega); intro HS) | ((refine HS.g2 (m := w'.heap.size) ?_ ?_); (focus omega); intro HS) | ((refine HS.g1 (m := w'.heap.size) ?_ ?_); (focus omega); intro HS) | ((refine HS.g0 (m := w'.heap.size) ?_ ?_); (focus omega); intro HS)); have HU := HS; simp only [AllLt] at HU)
        | (go_at_call 43; (with_reducible refine (HOP.out _).mono ?_); rintro e w' ⟨⟨u, he, hown⟩, hb⟩; obtain ⟨g, cap, rfl, hg1, hg2⟩ := hown.form hpos; subst he; have HTB := hid ((HTB.out.below ((Below.refl _ _).alloc (Nat.le_refl _) _)).below hb); have HOW := hid hown; (first | have HXB := hid (HXB.out.below hb HXB.out.lt) | have HXB := hid ((Tk.made _ 0 (.slice none 0 0)).below hb (Tk.made _ _ _).lt) | have HXB := hid ((show Tk (w1.alloc (.cells #[.int .i64 0, .slice none 0 0] 45)).drew w1.heap.size 0 (.slice none 0 0) from Tk.made w1 0 _).below hb (Tk.made w1 0 (.slice none 0 0)).lt) | skip); clear hown hg1 hg2; obtain ⟨HB, hz0, hz, hc, hf⟩ := bst (w0 := w1) (by go_grown) hb; clear hb; (try simp at hz); (first | ((refine HS.g5 (m := w'.heap.size) ?_ ?_); (focus omega); intro HS) | ((refine HS.g4 (m := w'.heap.size) ?_ ?_); (focus omega); intro HS) | ((refine HS.g3 (m := w'.heap.size) ?_ ?_); (focus omega); intro HS) | ((refine HS.g2 (m := w'.heap.size) ?_ ?_); (focus omega); intro HS) | ((refine HS.g1 (m := w'.heap.size) ?_ ?_); (focus omega); intro HS) | ((refine HS.g0 (m := w'.heap.size) ?_ ?_); (focus omega); intro HS)); have HU := HS; simp only [AllLt] at HU)
        | (go_at_call 43; (with_reducible refine (HOP.out _).mono ?_); rintro e w' ⟨⟨u, he, hown⟩, hb⟩; obtain ⟨g, cap, rfl, hg1, hg2⟩ := hown.form hpos; subst he; have HOW := hid hown; (first | have HXB := hid (HXB.out.below hb HXB.out.lt) | have HXB := hid ((Tk.made _ 0 (.slice none 0 0)).below hb (Tk.made _ _ _).lt) | have HXB := hid ((show Tk (w1.alloc (.cells #[.int .i64 0, .slice none 0 0] 45)).drew w1.heap.size 0 (.slice none 0 0) from Tk.made w1 0 _).below hb (Tk.made w1 0 (.slice none 0 0)).lt) | skip); clear hown hg1 hg2; obtain ⟨HB, hz0, hz, hc, hf⟩ := bst (w0 := w1) (by go_grown) hb; clear hb; (try simp at hz); (first | ((refine HS.g5 (m := w'.heap.size) ?_ ?_); (focus omega); intro HS) | ((refine HS.g4 (m := w'.heap.size) ?_ ?_); (focus omega); intro HS) | ((refine HS.g3 (m := w'.heap.size) ?_ ?_); (focus omega); intro HS) | ((refine HS.g2 (m := w'.heap.size) ?_ ?_); (focus omega); intro HS) | ((refine HS.g1 (m := w'.heap.size) ?_ ?_); (focus omega); intro HS) | ((refine HS.g0 (m := w'.heap.size) ?_ ?_); (focus omega); intro HS)); have HU := HS; simp only [AllLt] at HU)
        | (go_at_call 64; (with_reducible refine (l6Close_any o n R HOK.out g cap _ _ (TC.of HTB.out) HTB.out.lt HOW.out).mono ?_); rintro e w' ⟨⟨g', cap', b', v, rfl, hown, hnt⟩, hb⟩; obtain ⟨av, cv, rfl⟩ := own_slice hnt; have HOC := hid hown; (first | have HXB := hid (HXB.out.below hb HXB.out.lt) | have HXB := hid ((Tk.made _ 0 (.slice none 0 0)).below hb (Tk.made _ _ _).lt) | have HXB := hid ((show Tk (w1.alloc (.cells #[.int .i64 0, .slice none 0 0] 45)).drew w1.heap.size 0 (.slice none 0 0) from Tk.made w1 0 _).below hb (Tk.made w1 0 (.slice none 0 0)).lt) | skip); clear hown hnt; obtain ⟨HB, hz0, hz, hc, hf⟩ := bst (w0 := w1) (by go_grown) hb; clear hb; (try simp at hz); (first | ((refine HS.g5 (m := w'.heap.size) ?_ ?_); (focus omega); intro HS) | ((refine HS.g4 (m := w'.heap.size) ?_ ?_); (focus omega); intro HS) | ((refine HS.g3 (m := w'.heap.size) ?_ ?_); (focus omega); intro HS) | ((refine HS.g2 (m := w'.heap.size) ?_ ?_); (focus omega); intro HS) | ((refine HS.g1 (m := w'.heap.size) ?_ ?_); (focus omega); intro HS) | ((refine HS.g0 (m := w'.heap.size) ?_ ?_); (focus omega); intro HS)); have HU := HS; simp only [AllLt] at HU)
        | (go_at_call 64; (with_reducible refine (l6Close_any o n R HOK.out g cap _ _ (TC.of (HTB.out.below ((Below.refl _ _).alloc (Nat.le_refl _) _))) (HTB.out.below ((Below.refl _ _).alloc (Nat.le_refl _) _)).lt (HOW.out.alloc _)).mono ?_); rintro e w' ⟨⟨g', cap', b', v, rfl, hown, hnt⟩, hb⟩; obtain ⟨av, cv, rfl⟩ := own_slice hnt; have HOC := hid hown; (first | have HXB := hid (HXB.out.below hb HXB.out.lt) | have HXB := hid ((Tk.made _ 0 (.slice none 0 0)).below hb (Tk.made _ _ _).lt) | have HXB := hid ((show Tk (w1.alloc (.cells #[.int .i64 0, .slice none 0 0] 45)).drew w1.heap.size 0 (.slice none 0 0) from Tk.made w1 0 _).below hb (Tk.made w1 0 (.slice none 0 0)).lt) | skip); clear hown hnt; obtain ⟨HB, hz0, hz, hc, hf⟩ := bst (w0 := w1) (by go_grown) hb; clear hb; (try simp at hz); (first | ((refine HS.g5 (m := w'.heap.size) ?_ ?_); (focus omega); intro HS) | ((refine HS.g4 (m := w'.heap.size) ?_ ?_); (focus omega); intro HS) | ((refine HS.g3 (m := w'.heap.size) ?_ ?_); (focus omega); intro HS) | ((refine HS.g2 (m := w'.heap.size) ?_ ?_); (focus omega); intro HS) | ((refine HS.g1 (m := w'.heap.size) ?_ ?_); (focus omega); intro HS) | ((refine HS.g0 (m := w'.heap.size) ?_ ?_); (focus omega); intro HS)); have HU := HS; simp only [AllLt] at HU)
        | fail)
    all_goals
      go_wp2_with fail
      go_meet
      first
        | exact ⟨_, _, _, _, rfl, Tk.made _ _ _, HOC.out.alloc _, by (repeat' (first | (with_reducible exact Below.refl _ _) | (with_reducible refine Below.setCell ?_ ?_ _) | (with_reducible refine below_drewN' ?_ _) | (with_reducible refine below_drew' ?_) | (with_reducible refine Below.alloc ?_ ?_ _) | (with_reducible assumption) | go_size))⟩
        | exact ⟨_, _, _, _, rfl, (HXB.out.put0 _).set1 _, own_far (own_far HOC.out (tk_own HXB.out HOC.out) _) (tk_own HXB.out HOC.out) _, by (repeat' (first | (with_reducible exact Below.refl _ _) | (with_reducible refine Below.setCell ?_ ?_ _) | (with_reducible refine below_drewN' ?_ _) | (with_reducible refine below_drew' ?_) | (with_reducible refine Below.alloc ?_ ?_ _) | (with_reducible assumption) | go_size))⟩
        | fail
  case rest =>
    obtain ⟨x, g, cap, b, rfl, HTx, HOx, HBx⟩ := hcut
    rename_i wc
    have t0 := HTx.c0
    have t1 := HTx.c1
    have HK3 := hid (HK1.out.below HBx HK1.out.lt)
    have HB3 := hid (HB1.out.trans (HBx.mono HB1.out.size))
    have HCL := hid (l5Close_any n _ (n * n) h36 (fl n (cloR n R)) (fun x _ => HLT.out _ _) wc (ts_fl HOx))
    clear HTx HOx HBx HS q0 q1
    go_wp2_with fail
    (with_reducible refine HCL.out.mono ?_)
    rintro e w4 ⟨rfl, hb⟩
    rw [HCT.out]
    have hk := HK3.out.below hb HK3.out.lt
    have HB4 := hid (HB3.out.trans (hb.mono HB3.out.size))
    have r0 := hk.c0
    have r1 := hk.c1
    have rf0 := hk.fr 0
    have rf1 := hk.fr 1
    clear hk hb
    go_wp2_with fail
    refine bodyPost_ret (by simp [results, Tryd.results28, go_sem, *]; try rfl) rfl ?_
    exact ⟨rfl, (HB4.out.setCell (p := ⟨w.heap.size + 1, 0, none⟩) (by simp) _).setCell (p := ⟨w.heap.size + 1, 1, none⟩) (by simp) _⟩
set_option maxHeartbeats 1000000 in
theorem walk_FnExactCloseNet (a00 : Int) (a01 : ByteArray) (w : World) (w00 : (Lit.int .i64 a00).wf = true) (w01 : a01.size ≤ maxLen) (hB : TB w) :
    Calls Tryd.prog 9 #[.agg #[.int .i64 a00, .string a01]] w fun e w' => e = .returned (.bool true) ∧ Below w.heap.size w w' := by
  have HT := hid hB
  clear hB w00
  by_cases hs : a01.size ≤ 1048576
  · have h0 : decide ((1048576 : Int) - (a01.size : Int) < 0) = false := by simp; omega
    have h1 : decide ((1048576 : Int) < (a01.size : Int)) = false := by simp; omega
    have HSZ := hid (szNet_on a00 a01 hs)
    clear w01 hs
    rcases nv_cases a00 a01 with h | ⟨n, R, hR, rfl, rfl⟩
    · have HM := hid (sCloseNet_no a00 a01 h)
      have HI := hid (iCloseNet_no a00 a01 h)
      clear h
      have HS := AllLt.start w; have hn2 := lt2; have hn3 := lt3; have hn4 := lt4; go_enter Tryd.func9, Tryd.ntmps9
      go_wp2_with (first | (go_at_call 14; (with_reducible refine (HSZ.out _).mono ?_); rintro e w' ⟨rfl, hb⟩; obtain ⟨HB, hz0, hz, hc, hf⟩ := bst (w0 := w) (by go_grown) hb; clear hb; (try simp at hz); (first | ((refine HS.g5 (m := w'.heap.size) ?_ ?_); (focus omega); intro HS) | ((refine HS.g4 (m := w'.heap.size) ?_ ?_); (focus omega); intro HS) | ((refine HS.g3 (m := w'.heap.size) ?_ ?_); (focus omega); intro HS) | ((refine HS.g2 (m := w'.heap.size) ?_ ?_); (focus omega); intro HS) | ((refine HS.g1 (m := w'.heap.size) ?_ ?_); (focus omega); intro HS) | ((refine HS.g0 (m := w'.heap.size) ?_ ?_); (focus omega); intro HS)); have HU := HS; simp only [AllLt] at HU) | (go_at_call 16; (with_reducible refine (toNet_any _ _ _).mono ?_); rintro e w' ⟨rfl, hb⟩; obtain ⟨HB, hz0, hz, hc, hf⟩ := bst (w0 := w) (by go_grown) hb; clear hb; (try simp at hz); (first | ((refine HS.g5 (m := w'.heap.size) ?_ ?_); (focus omega); intro HS) | ((refine HS.g4 (m := w'.heap.size) ?_ ?_); (focus omega); intro HS) | ((refine HS.g3 (m := w'.heap.size) ?_ ?_); (focus omega); intro HS) | ((refine HS.g2 (m := w'.heap.size) ?_ ?_); (focus omega); intro HS) | ((refine HS.g1 (m := w'.heap.size) ?_ ?_); (focus omega); intro HS) | ((refine HS.g0 (m := w'.heap.size) ?_ ?_); (focus omega); intro HS)); have HU := HS; simp only [AllLt] at HU) | (go_at_call 28; (with_reducible refine (HM.out _).mono ?_); rintro e w' ⟨rfl, hb⟩; obtain ⟨HB, hz0, hz, hc, hf⟩ := bst (w0 := w) (by go_grown) hb; clear hb; (try simp at hz); (first | ((refine HS.g5 (m := w'.heap.size) ?_ ?_); (focus omega); intro HS) | ((refine HS.g4 (m := w'.heap.size) ?_ ?_); (focus omega); intro HS) | ((refine HS.g3 (m := w'.heap.size) ?_ ?_); (focus omega); intro HS) | ((refine HS.g2 (m := w'.heap.size) ?_ ?_); (focus omega); intro HS) | ((refine HS.g1 (m := w'.heap.size) ?_ ?_); (focus omega); intro HS) | ((refine HS.g0 (m := w'.heap.size) ?_ ?_); (focus omega); intro HS)); have HU := HS; simp only [AllLt] at HU) | (go_at_call 29; (with_reducible refine (HI.out _ (HT.out.below (by go_grown))).mono ?_); rintro e w' ⟨rfl, hb⟩; obtain ⟨HB, hz0, hz, hc, hf⟩ := bst (w0 := w) (by go_grown) hb; clear hb; (try simp at hz); (first | ((refine HS.g5 (m := w'.heap.size) ?_ ?_); (focus omega); intro HS) | ((refine HS.g4 (m := w'.heap.size) ?_ ?_); (focus omega); intro HS) | ((refine HS.g3 (m := w'.heap.size) ?_ ?_); (focus omega); intro HS) | ((refine HS.g2 (m := w'.heap.size) ?_ ?_); (focus omega); intro HS) | ((refine HS.g1 (m := w'.heap.size) ?_ ?_); (focus omega); intro HS) | ((refine HS.g0 (m := w'.heap.size) ?_ ?_); (focus omega); intro HS)); have HU := HS; simp only [AllLt] at HU) | (go_at_call 30; (with_reducible refine (eqNet_same _ _ _).mono ?_); rintro e w' ⟨rfl, hb⟩; obtain ⟨HB, hz0, hz, hc, hf⟩ := bst (w0 := w) (by go_grown) hb; clear hb; (try simp at hz); (first | ((refine HS.g5 (m := w'.heap.size) ?_ ?_); (focus omega); intro HS) | ((refine HS.g4 (m := w'.heap.size) ?_ ?_); (focus omega); intro HS) | ((refine HS.g3 (m := w'.heap.size) ?_ ?_); (focus omega); intro HS) | ((refine HS.g2 (m := w'.heap.size) ?_ ?_); (focus omega); intro HS) | ((refine HS.g1 (m := w'.heap.size) ?_ ?_); (focus omega); intro HS) | ((refine HS.g0 (m := w'.heap.size) ?_ ?_); (focus omega); intro HS)); have HU := HS; simp only [AllLt] at HU))
      go_ret
      exact ⟨rfl, by (repeat' (first | (with_reducible exact Below.refl _ _) | (with_reducible refine Below.setCell ?_ ?_ _) | (with_reducible refine below_drewN' ?_ _) | (with_reducible refine below_drew' ?_) | (with_reducible refine Below.alloc ?_ ?_ _) | (with_reducible assumption) | go_size))⟩
    · have HM := hid (sCloseNet_yes n R hR)
      have HI := hid (iCloseNet_yes n R hR)
      clear hR
      have HS := AllLt.start w; have hn2 := lt2; have hn3 := lt3; have hn4 := lt4; go_enter Tryd.func9, Tryd.ntmps9
      go_wp2_with (first | (go_at_call 14; (with_reducible refine (HSZ.out _).mono ?_); rintro e w' ⟨rfl, hb⟩; obtain ⟨HB, hz0, hz, hc, hf⟩ := bst (w0 := w) (by go_grown) hb; clear hb; (try simp at hz); (first | ((refine HS.g5 (m := w'.heap.size) ?_ ?_); (focus omega); intro HS) | ((refine HS.g4 (m := w'.heap.size) ?_ ?_); (focus omega); intro HS) | ((refine HS.g3 (m := w'.heap.size) ?_ ?_); (focus omega); intro HS) | ((refine HS.g2 (m := w'.heap.size) ?_ ?_); (focus omega); intro HS) | ((refine HS.g1 (m := w'.heap.size) ?_ ?_); (focus omega); intro HS) | ((refine HS.g0 (m := w'.heap.size) ?_ ?_); (focus omega); intro HS)); have HU := HS; simp only [AllLt] at HU) | (go_at_call 16; (with_reducible refine (toNet_any _ _ _).mono ?_); rintro e w' ⟨rfl, hb⟩; obtain ⟨HB, hz0, hz, hc, hf⟩ := bst (w0 := w) (by go_grown) hb; clear hb; (try simp at hz); (first | ((refine HS.g5 (m := w'.heap.size) ?_ ?_); (focus omega); intro HS) | ((refine HS.g4 (m := w'.heap.size) ?_ ?_); (focus omega); intro HS) | ((refine HS.g3 (m := w'.heap.size) ?_ ?_); (focus omega); intro HS) | ((refine HS.g2 (m := w'.heap.size) ?_ ?_); (focus omega); intro HS) | ((refine HS.g1 (m := w'.heap.size) ?_ ?_); (focus omega); intro HS) | ((refine HS.g0 (m := w'.heap.size) ?_ ?_); (focus omega); intro HS)); have HU := HS; simp only [AllLt] at HU) | (go_at_call 28; (with_reducible refine (HM.out _).mono ?_); rintro e w' ⟨rfl, hb⟩; obtain ⟨HB, hz0, hz, hc, hf⟩ := bst (w0 := w) (by go_grown) hb; clear hb; (try simp at hz); (first | ((refine HS.g5 (m := w'.heap.size) ?_ ?_); (focus omega); intro HS) | ((refine HS.g4 (m := w'.heap.size) ?_ ?_); (focus omega); intro HS) | ((refine HS.g3 (m := w'.heap.size) ?_ ?_); (focus omega); intro HS) | ((refine HS.g2 (m := w'.heap.size) ?_ ?_); (focus omega); intro HS) | ((refine HS.g1 (m := w'.heap.size) ?_ ?_); (focus omega); intro HS) | ((refine HS.g0 (m := w'.heap.size) ?_ ?_); (focus omega); intro HS)); have HU := HS; simp only [AllLt] at HU) | (go_at_call 29; (with_reducible refine (HI.out _ (HT.out.below (by go_grown))).mono ?_); rintro e w' ⟨rfl, hb⟩; obtain ⟨HB, hz0, hz, hc, hf⟩ := bst (w0 := w) (by go_grown) hb; clear hb; (try simp at hz); (first | ((refine HS.g5 (m := w'.heap.size) ?_ ?_); (focus omega); intro HS) | ((refine HS.g4 (m := w'.heap.size) ?_ ?_); (focus omega); intro HS) | ((refine HS.g3 (m := w'.heap.size) ?_ ?_); (focus omega); intro HS) | ((refine HS.g2 (m := w'.heap.size) ?_ ?_); (focus omega); intro HS) | ((refine HS.g1 (m := w'.heap.size) ?_ ?_); (focus omega); intro HS) | ((refine HS.g0 (m := w'.heap.size) ?_ ?_); (focus omega); intro HS)); have HU := HS; simp only [AllLt] at HU) | (go_at_call 30; (with_reducible refine (eqNet_same _ _ _).mono ?_); rintro e w' ⟨rfl, hb⟩; obtain ⟨HB, hz0, hz, hc, hf⟩ := bst (w0 := w) (by go_grown) hb; clear hb; (try simp at hz); (first | ((refine HS.g5 (m := w'.heap.size) ?_ ?_); (focus omega); intro HS) | ((refine HS.g4 (m := w'.heap.size) ?_ ?_); (focus omega); intro HS) | ((refine HS.g3 (m := w'.heap.size) ?_ ?_); (focus omega); intro HS) | ((refine HS.g2 (m := w'.heap.size) ?_ ?_); (focus omega); intro HS) | ((refine HS.g1 (m := w'.heap.size) ?_ ?_); (focus omega); intro HS) | ((refine HS.g0 (m := w'.heap.size) ?_ ?_); (focus omega); intro HS)); have HU := HS; simp only [AllLt] at HU))
      go_ret
      exact ⟨rfl, by (repeat' (first | (with_reducible exact Below.refl _ _) | (with_reducible refine Below.setCell ?_ ?_ _) | (with_reducible refine below_drewN' ?_ _) | (with_reducible refine below_drew' ?_) | (with_reducible refine Below.alloc ?_ ?_ _) | (with_reducible assumption) | go_size))⟩
  · have HS := AllLt.start w; have hn2 := lt2; have hn3 := lt3; have hn4 := lt4; go_enter Tryd.func9, Tryd.ntmps9
    go_wp2_with (first | (go_at_call 14; (with_reducible refine (szNet_off a00 a01 hs w01 _).mono ?_); rintro e w' ⟨rfl, hb⟩; obtain ⟨HB, hz0, hz, hc, hf⟩ := bst (w0 := w) (by go_grown) hb; clear hb; (try simp at hz); (first | ((refine HS.g5 (m := w'.heap.size) ?_ ?_); (focus omega); intro HS) | ((refine HS.g4 (m := w'.heap.size) ?_ ?_); (focus omega); intro HS) | ((refine HS.g3 (m := w'.heap.size) ?_ ?_); (focus omega); intro HS) | ((refine HS.g2 (m := w'.heap.size) ?_ ?_); (focus omega); intro HS) | ((refine HS.g1 (m := w'.heap.size) ?_ ?_); (focus omega); intro HS) | ((refine HS.g0 (m := w'.heap.size) ?_ ?_); (focus omega); intro HS)); have HU := HS; simp only [AllLt] at HU))
    go_ret
    exact ⟨rfl, by (repeat' (first | (with_reducible exact Below.refl _ _) | (with_reducible refine Below.setCell ?_ ?_ _) | (with_reducible refine below_drewN' ?_ _) | (with_reducible refine below_drew' ?_) | (with_reducible refine Below.alloc ?_ ?_ _) | (with_reducible assumption) | go_size))⟩
set_option maxHeartbeats 2000000 in
theorem sClosesEmpty_any (z : Int) (s : ByteArray) (w : World) :
    Calls Tryd.prog 31 #[.agg #[.int .i64 z, .string s]] w fun e w' => e = .returned (.bool (cemI z s)) ∧ Below w.heap.size w w' := by
  rcases nv_cases z s with h | ⟨n, R, hR, rfl, rfl⟩
  · have HM := hid (sCloseNet_no z s h)
    have HR := hid (cemI_no h)
    clear h
    have HS := AllLt.start w; have hn2 := lt2; have hn3 := lt3; have hn4 := lt4; go_enter Tryd.func31, Tryd.ntmps31
    go_wp2_with (first | (go_at_call 28; (with_reducible refine (HM.out _).mono ?_); rintro e w' ⟨rfl, hb⟩; obtain ⟨HB, hz0, hz, hc, hf⟩ := bst (w0 := w) (by go_grown) hb; clear hb; (try simp at hz); (first | ((refine HS.g5 (m := w'.heap.size) ?_ ?_); (focus omega); intro HS) | ((refine HS.g4 (m := w'.heap.size) ?_ ?_); (focus omega); intro HS) | ((refine HS.g3 (m := w'.heap.size) ?_ ?_); (focus omega); intro HS) | ((refine HS.g2 (m := w'.heap.size) ?_ ?_); (focus omega); intro HS) | ((refine HS.g1 (m := w'.heap.size) ?_ ?_); (focus omega); intro HS) | ((refine HS.g0 (m := w'.heap.size) ?_ ?_); (focus omega); intro HS)); have HU := HS; simp only [AllLt] at HU))
    go_ret
    exact ⟨ret_bool HR.out.symm, by (repeat' (first | (with_reducible exact Below.refl _ _) | (with_reducible refine Below.setCell ?_ ?_ _) | (with_reducible refine below_drewN' ?_ _) | (with_reducible refine below_drew' ?_) | (with_reducible refine Below.alloc ?_ ?_ _) | (with_reducible assumption) | go_size))⟩
  · have HM := hid (sCloseNet_yes n R hR)
    have HE := hid (sIsEmptyNet_any n (netS n (cloR n R)))
    have HR := hid (show cemI n (netS n R) = empI n (netS n (cloR n R)) from (cemI_yes hR).trans (empI_yes (cloR_ok hR)).symm)
    clear hR
    generalize netS n (cloR n R) = t at *
    generalize netS n R = s at *
    have HS := AllLt.start w; have hn2 := lt2; have hn3 := lt3; have hn4 := lt4; go_enter Tryd.func31, Tryd.ntmps31
    go_wp2_with (first | (go_at_call 28; (with_reducible refine (HM.out _).mono ?_); rintro e w' ⟨rfl, hb⟩; obtain ⟨HB, hz0, hz, hc, hf⟩ := bst (w0 := w) (by go_grown) hb; clear hb; (try simp at hz); (first | ((refine HS.g5 (m := w'.heap.size) ?_ ?_); (focus omega); intro HS) | ((refine HS.g4 (m := w'.heap.size) ?_ ?_); (focus omega); intro HS) | ((refine HS.g3 (m := w'.heap.size) ?_ ?_); (focus omega); intro HS) | ((refine HS.g2 (m := w'.heap.size) ?_ ?_); (focus omega); intro HS) | ((refine HS.g1 (m := w'.heap.size) ?_ ?_); (focus omega); intro HS) | ((refine HS.g0 (m := w'.heap.size) ?_ ?_); (focus omega); intro HS)); have HU := HS; simp only [AllLt] at HU) | (go_at_call 15; (with_reducible refine (HE.out _).mono ?_); rintro e w' ⟨rfl, hb⟩; obtain ⟨HB, hz0, hz, hc, hf⟩ := bst (w0 := w) (by go_grown) hb; clear hb; (try simp at hz); (first | ((refine HS.g5 (m := w'.heap.size) ?_ ?_); (focus omega); intro HS) | ((refine HS.g4 (m := w'.heap.size) ?_ ?_); (focus omega); intro HS) | ((refine HS.g3 (m := w'.heap.size) ?_ ?_); (focus omega); intro HS) | ((refine HS.g2 (m := w'.heap.size) ?_ ?_); (focus omega); intro HS) | ((refine HS.g1 (m := w'.heap.size) ?_ ?_); (focus omega); intro HS) | ((refine HS.g0 (m := w'.heap.size) ?_ ?_); (focus omega); intro HS)); have HU := HS; simp only [AllLt] at HU))
    go_ret
    exact ⟨ret_bool HR.out.symm, by (repeat' (first | (with_reducible exact Below.refl _ _) | (with_reducible refine Below.setCell ?_ ?_ _) | (with_reducible refine below_drewN' ?_ _) | (with_reducible refine below_drew' ?_) | (with_reducible refine Below.alloc ?_ ?_ _) | (with_reducible assumption) | go_size))⟩
set_option maxHeartbeats 1000000 in
theorem walk_FnExactClosesEmpty (a00 : Int) (a01 : ByteArray) (w : World) (w00 : (Lit.int .i64 a00).wf = true) (w01 : a01.size ≤ maxLen) (hB : TB w) :
    Calls Tryd.prog 10 #[.agg #[.int .i64 a00, .string a01]] w fun e w' => e = .returned (.bool true) ∧ Below w.heap.size w w' := by
  have HT := hid hB
  clear hB w00
  by_cases hs : a01.size ≤ 1048576
  · have h0 : decide ((1048576 : Int) - (a01.size : Int) < 0) = false := by simp; omega
    have h1 : decide ((1048576 : Int) < (a01.size : Int)) = false := by simp; omega
    clear w01
    have HS := AllLt.start w; have hn2 := lt2; have hn3 := lt3; have hn4 := lt4; go_enter Tryd.func10, Tryd.ntmps10
    go_wp2_with (first | (go_at_call 14; (with_reducible refine (szNet_on a00 a01 hs _).mono ?_); rintro e w' ⟨rfl, hb⟩; obtain ⟨HB, hz0, hz, hc, hf⟩ := bst (w0 := w) (by go_grown) hb; clear hb; (try simp at hz); (first | ((refine HS.g5 (m := w'.heap.size) ?_ ?_); (focus omega); intro HS) | ((refine HS.g4 (m := w'.heap.size) ?_ ?_); (focus omega); intro HS) | ((refine HS.g3 (m := w'.heap.size) ?_ ?_); (focus omega); intro HS) | ((refine HS.g2 (m := w'.heap.size) ?_ ?_); (focus omega); intro HS) | ((refine HS.g1 (m := w'.heap.size) ?_ ?_); (focus omega); intro HS) | ((refine HS.g0 (m := w'.heap.size) ?_ ?_); (focus omega); intro HS)); have HU := HS; simp only [AllLt] at HU) | (go_at_call 16; (with_reducible refine (toNet_any _ _ _).mono ?_); rintro e w' ⟨rfl, hb⟩; obtain ⟨HB, hz0, hz, hc, hf⟩ := bst (w0 := w) (by go_grown) hb; clear hb; (try simp at hz); (first | ((refine HS.g5 (m := w'.heap.size) ?_ ?_); (focus omega); intro HS) | ((refine HS.g4 (m := w'.heap.size) ?_ ?_); (focus omega); intro HS) | ((refine HS.g3 (m := w'.heap.size) ?_ ?_); (focus omega); intro HS) | ((refine HS.g2 (m := w'.heap.size) ?_ ?_); (focus omega); intro HS) | ((refine HS.g1 (m := w'.heap.size) ?_ ?_); (focus omega); intro HS) | ((refine HS.g0 (m := w'.heap.size) ?_ ?_); (focus omega); intro HS)); have HU := HS; simp only [AllLt] at HU) | (go_at_call 31; (with_reducible refine (sClosesEmpty_any _ _ _).mono ?_); rintro e w' ⟨rfl, hb⟩; obtain ⟨HB, hz0, hz, hc, hf⟩ := bst (w0 := w) (by go_grown) hb; clear hb; (try simp at hz); (first | ((refine HS.g5 (m := w'.heap.size) ?_ ?_); (focus omega); intro HS) | ((refine HS.g4 (m := w'.heap.size) ?_ ?_); (focus omega); intro HS) | ((refine HS.g3 (m := w'.heap.size) ?_ ?_); (focus omega); intro HS) | ((refine HS.g2 (m := w'.heap.size) ?_ ?_); (focus omega); intro HS) | ((refine HS.g1 (m := w'.heap.size) ?_ ?_); (focus omega); intro HS) | ((refine HS.g0 (m := w'.heap.size) ?_ ?_); (focus omega); intro HS)); have HU := HS; simp only [AllLt] at HU) | (go_at_call 32; (with_reducible refine (iClosesEmpty_any _ _ _ (HT.out.below (by go_grown))).mono ?_); rintro e w' ⟨rfl, hb⟩; obtain ⟨HB, hz0, hz, hc, hf⟩ := bst (w0 := w) (by go_grown) hb; clear hb; (try simp at hz); (first | ((refine HS.g5 (m := w'.heap.size) ?_ ?_); (focus omega); intro HS) | ((refine HS.g4 (m := w'.heap.size) ?_ ?_); (focus omega); intro HS) | ((refine HS.g3 (m := w'.heap.size) ?_ ?_); (focus omega); intro HS) | ((refine HS.g2 (m := w'.heap.size) ?_ ?_); (focus omega); intro HS) | ((refine HS.g1 (m := w'.heap.size) ?_ ?_); (focus omega); intro HS) | ((refine HS.g0 (m := w'.heap.size) ?_ ?_); (focus omega); intro HS)); have HU := HS; simp only [AllLt] at HU))
    go_ret
    exact ⟨rfl, by (repeat' (first | (with_reducible exact Below.refl _ _) | (with_reducible refine Below.setCell ?_ ?_ _) | (with_reducible refine below_drewN' ?_ _) | (with_reducible refine below_drew' ?_) | (with_reducible refine Below.alloc ?_ ?_ _) | (with_reducible assumption) | go_size))⟩
  · have HS := AllLt.start w; have hn2 := lt2; have hn3 := lt3; have hn4 := lt4; go_enter Tryd.func10, Tryd.ntmps10
    go_wp2_with (first | (go_at_call 14; (with_reducible refine (szNet_off a00 a01 hs w01 _).mono ?_); rintro e w' ⟨rfl, hb⟩; obtain ⟨HB, hz0, hz, hc, hf⟩ := bst (w0 := w) (by go_grown) hb; clear hb; (try simp at hz); (first | ((refine HS.g5 (m := w'.heap.size) ?_ ?_); (focus omega); intro HS) | ((refine HS.g4 (m := w'.heap.size) ?_ ?_); (focus omega); intro HS) | ((refine HS.g3 (m := w'.heap.size) ?_ ?_); (focus omega); intro HS) | ((refine HS.g2 (m := w'.heap.size) ?_ ?_); (focus omega); intro HS) | ((refine HS.g1 (m := w'.heap.size) ?_ ?_); (focus omega); intro HS) | ((refine HS.g0 (m := w'.heap.size) ?_ ?_); (focus omega); intro HS)); have HU := HS; simp only [AllLt] at HU))
    go_ret
    exact ⟨rfl, by (repeat' (first | (with_reducible exact Below.refl _ _) | (with_reducible refine Below.setCell ?_ ?_ _) | (with_reducible refine below_drewN' ?_ _) | (with_reducible refine below_drew' ?_) | (with_reducible refine Below.alloc ?_ ?_ _) | (with_reducible assumption) | go_size))⟩
end
end Go.Proofs.YtlmmjdaipedjjaaDoor.C
