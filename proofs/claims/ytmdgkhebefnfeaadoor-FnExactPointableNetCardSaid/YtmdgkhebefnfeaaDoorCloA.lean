/- What is asked of all edges of a network: empty, atomic, nearly convex; the exact laws. -/
import Derived.Test.YtmdgkhebefnfeaaDoorNetI
import Derived.Deep.DeepCutAuto
import Derived.Test.YtmdgkhebefnfeaaDoorCloP
namespace Go.Proofs.YtmdgkhebefnfeaaDoor.C
open Go.RowKit
set_option linter.unusedVariables false
set_option linter.unusedSimpArgs false
/-- An index where something is found, or -1. -/
def AnyAt (b : Bool) (w : World) (e : Ending) (w' : World) : Prop := ∃ z : Int, (b = true → 0 ≤ z) ∧ (b = false → z = -1) ∧ e = .returned (.int .i64 z) ∧ Below w.heap.size w w'
theorem any_hit {f : Nat × Nat → Bool} {l : List (Nat × Nat)} {j : Nat} (hj : j < l.length) (h : f (l.getD j (0, 0)) = true) : l.any f = true := List.any_eq_true.2 ⟨_, getP_mem hj, h⟩
theorem any_miss {f : Nat × Nat → Bool} {l : List (Nat × Nat)} (h : ∀ x ∈ l.take l.length, f x = false) : l.any f = false := by
  rw [List.take_length] at h
  rw [List.any_eq_false]
  intro x hx
  rw [h x hx]; simp
theorem take_miss {f : Nat × Nat → Bool} {l : List (Nat × Nat)} {j : Nat} (hj : j < l.length) (h : ∀ x ∈ l.take j, f x = false) (h2 : f (l.getD j (0, 0)) = false) : ∀ x ∈ l.take (j + 1), f x = false := by
  intro x hx
  rw [takeP _ _ hj] at hx
  rcases List.mem_append.1 hx with hx | hx
  · exact h x hx
  · rw [List.mem_singleton.1 hx]; exact h2
set_option maxHeartbeats 2000000 in
set_option maxRecDepth 100000 in
theorem idxE_any (C : Nat) (hcf : ∀ (args : Array Value) (w : World), (callFunc C args).run Tryd.prog w = .ok (.enter C args) w) (c : Value) (M : Nat → Nat → Nat) (l : List (Nat × Nat)) (f : Nat × Nat → Bool) (v : Value) (w : World) (hl : l.length ≤ 15) (hE : Es w v M l)
    (hC : ∀ j, j < l.length → ∀ w1, Below w.heap.size w w1 → Calls Tryd.prog C #[.agg #[.int .i64 ((l.getD j (0, 0)).1 : Int), .int .i64 ((M (l.getD j (0, 0)).1 (l.getD j (0, 0)).2 : Nat) : Int), .int .i64 ((l.getD j (0, 0)).2 : Int)], c] w1 fun e w' => e = .returned (.bool (f (l.getD j (0, 0)))) ∧ Below w1.heap.size w1 w') :
    Calls Tryd.prog 160 #[v, .func (.func C) #[] #[c]] w (AnyAt (l.any f) w) := by
  obtain ⟨a, cap, rfl, hE⟩ := hE
  have HE := hid hE
  have HC := hid hC
  clear hE hC
  have HS := AllLt.start w; go_enter Tryd.func160, Tryd.ntmps160
  go_wp2_with fail
  go_loopw [8] (fun v wr => ∃ j : Nat, j ≤ l.length ∧ v = .int .i64 j ∧ Hid (∀ x ∈ l.take j, f x = false) ∧ Hid (Below w.heap.size w wr)) (fun v _ => l.length - (intOf v).toNat)
  case atStart => exact ⟨0, by omega, rfl, hid (by simp), hid (Below.refl _ _)⟩
  case round =>
    obtain ⟨j, hj, rfl, HF, HB⟩ := hrel
    clear HS
    obtain ⟨wi, rfl⟩ : ∃ wi : World, wi = wr := ⟨_, rfl⟩
    by_cases hjl : j < l.length
    · have hdj : decide ((j : Int) < (l.length : Int)) = true := by simp; omega
      have hdk : decide (j < l.length) = true := by simp; omega
      obtain ⟨g, rfl, hg, c0, c1, c2⟩ := HE.out j hjl
      have d0 : wi.cell? ⟨g, j * 3, none⟩ = _ := (HB.out.cell (p := ⟨g, j * 3, none⟩) hg).trans c0
      have d1 : wi.cell? ⟨g, j * 3 + 1, none⟩ = _ := (HB.out.cell (p := ⟨g, j * 3 + 1, none⟩) hg).trans c1
      have d2 : wi.cell? ⟨g, j * 3 + 2, none⟩ = _ := (HB.out.cell (p := ⟨g, j * 3 + 2, none⟩) hg).trans c2
      have HCj := hid (HC.out j hjl wi HB.out)
      clear c0 c1 c2
      cases hf : f (l.getD j (0, 0))
      · have HN := hid (take_miss hjl HF.out hf)
        generalize l.getD j (0, 0) = p at *
        have HV := hid hf
        clear hf
        go_wp2_with fail
        (with_reducible refine HCj.out.mono ?_)
        rintro e w2 ⟨rfl, hb⟩
        rw [HV.out]
        have HB2 := hid (HB.out.trans (hb.mono HB.out.size))
        clear hb d0 d1 d2
        go_wp2_with fail
        go_roundw
        case rel => exact ⟨j + 1, by omega, by go_num, HN, HB2⟩
        case measure => simp [intOf]; omega
      · have HN := hid (any_hit hjl hf)
        generalize l.getD j (0, 0) = p at *
        have HV := hid hf
        clear hf
        go_wp2_with fail
        (with_reducible refine HCj.out.mono ?_)
        rintro e w2 ⟨rfl, hb⟩
        rw [HV.out]
        have HB2 := hid (HB.out.trans (hb.mono HB.out.size))
        clear hb d0 d1 d2
        go_wp2_with fail
        go_ret
        exact ⟨j, fun _ => by omega, fun h => by (rw [HN.out] at h; cases h), rfl, HB2.out⟩
    · obtain rfl : j = l.length := by omega
      have hdj : decide ((l.length : Int) < (l.length : Int)) = false := by simp
      have HN := hid (any_miss HF.out)
      go_wp2_with fail
      go_ret
      exact ⟨-1, fun h => by (rw [HN.out] at h; cases h), fun _ => rfl, rfl, HB.out⟩
set_option maxRecDepth 100000 in
theorem contE_any (C : Nat) (hcf : ∀ (args : Array Value) (w : World), (callFunc C args).run Tryd.prog w = .ok (.enter C args) w) (c : Value) (M : Nat → Nat → Nat) (l : List (Nat × Nat)) (f : Nat × Nat → Bool) (v : Value) (w : World) (hl : l.length ≤ 15) (hE : Es w v M l)
    (hC : ∀ j, j < l.length → ∀ w1, Below w.heap.size w w1 → Calls Tryd.prog C #[.agg #[.int .i64 ((l.getD j (0, 0)).1 : Int), .int .i64 ((M (l.getD j (0, 0)).1 (l.getD j (0, 0)).2 : Nat) : Int), .int .i64 ((l.getD j (0, 0)).2 : Int)], c] w1 fun e w' => e = .returned (.bool (f (l.getD j (0, 0)))) ∧ Below w1.heap.size w1 w') :
    Calls Tryd.prog 120 #[v, .func (.func C) #[] #[c]] w fun e w' => e = .returned (.bool (l.any f)) ∧ Below w.heap.size w w' := by
  have HI := hid (idxE_any C hcf c M l f v w hl hE hC)
  clear hE hC
  cases hb : l.any f
  all_goals
    have HV := hid hb
    clear hb
    have HS := AllLt.start w; go_enter Tryd.func120, Tryd.ntmps120
    go_wp2_with fail
    (with_reducible refine HI.out.mono ?_)
    rintro e w2 ⟨z, hz1, hz2, rfl, hb⟩
  · obtain rfl := hz2 HV.out
    have HB := hid hb
    clear hb hz1 hz2
    go_wp2_with fail
    go_ret
    exact ⟨rfl, HB.out⟩
  · have hz := hz1 HV.out
    have hd : decide (0 ≤ z) = true := by simp; omega
    have HB := hid hb
    clear hb hz1 hz2
    go_wp2_with fail
    go_ret
    exact ⟨rfl, HB.out⟩
set_option maxRecDepth 100000 in
theorem fit1_any (C : Nat) (hcf : ∀ (args : Array Value) (w : World), (callFunc C args).run Tryd.prog w = .ok (.enter C args) w) (P : Nat → Bool) (hC : ∀ r w, r < 8192 → TB w → Calls Tryd.prog C #[.int .i64 ((r : Nat) : Int)] w fun e w' => e = .returned (.bool (P r)) ∧ Below w.heap.size w w')
    (i r k g : Nat) (hr : r < 8192) (w : World) (hT : TB w) (hc : w.cell? ⟨g, 0, none⟩ = some (.func (.func C) #[] #[])) :
    Calls Tryd.prog 122 #[.agg #[.int .i64 i, .int .i64 r, .int .i64 k], .pointer (some ⟨g, 0, none⟩)] w fun e w' => e = .returned (.bool (!P r)) ∧ Below w.heap.size w w' := by
  have HB := hid ((Below.refl w.heap.size w).alloc (Nat.le_refl _) (.cells #[.int .i64 i, .int .i64 r, .int .i64 k] 103))
  have HT := hid (hT.below HB.out)
  have hg := cell_lt' hc
  have c1 : (w.alloc (.cells #[.int .i64 i, .int .i64 r, .int .i64 k] 103)).cell? ⟨g, 0, none⟩ = some (.func (.func C) #[] #[]) := (HB.out.cell (p := ⟨g, 0, none⟩) hg).trans hc
  have HC := hid (hC r)
  clear hT hc hC hg
  have HS := AllLt.start w; go_enter Tryd.func122, Tryd.ntmps122
  go_wp2_with fail
  (with_reducible refine (HC.out _ hr HT.out).mono ?_)
  rintro e w2 ⟨rfl, hb⟩
  have HB2 := hid (HB.out.trans (hb.mono (by simp)))
  clear hb c1
  go_wp2_with fail
  go_ret
  exact ⟨rfl, HB2.out⟩
set_option maxHeartbeats 2000000 in
set_option maxRecDepth 100000 in
theorem allFit_any (C : Nat) (hcf : ∀ (args : Array Value) (w : World), (callFunc C args).run Tryd.prog w = .ok (.enter C args) w) (P : Nat → Bool) (hC : ∀ r w, r < 8192 → TB w → Calls Tryd.prog C #[.int .i64 ((r : Nat) : Int)] w fun e w' => e = .returned (.bool (P r)) ∧ Below w.heap.size w w')
    (n : Nat) (h6 : n ≤ 6) (R : Nat → Nat → Nat) (hR : ∀ i k, R i k < 8192) (w : World) (hT : TB w) :
    Calls Tryd.prog 69 #[.agg (netV n R), .func (.func C) #[] #[]] w fun e w' => e = .returned (.bool ((edL n).all fun p => P (R p.1 p.2))) ∧ Below w.heap.size w w' := by
  have HA := hid ((NB.made w n R).alloc (.cells #[.func (.func C) #[] #[]] 90))
  have HB := hid (((Below.refl w.heap.size w).alloc (Nat.le_refl _) (.cells (netV n R) 86)).alloc (by simp) (.cells #[.func (.func C) #[] #[]] 90))
  have HK := hid (show ((w.alloc (.cells (netV n R) 86)).alloc (.cells #[.func (.func C) #[] #[]] 90)).cell? ⟨w.heap.size + 1, 0, none⟩ = some (.func (.func C) #[] #[]) by
    have h := new_cell (w.alloc (.cells (netV n R) 86)) (.func (.func C) #[] #[]) 90
    rw [World.size_alloc] at h
    exact h)
  have hz2 : ((w.alloc (.cells (netV n R) 86)).alloc (.cells #[.func (.func C) #[] #[]] 90)).heap.size = w.heap.size + 1 + 1 := by rw [World.size_alloc, World.size_alloc]
  have HT := hid hT
  have HR := hid hR
  have HC := hid hC
  have HV := hid (show (!((edL n).any fun p => !P (R p.1 p.2))) = (edL n).all fun p => P (R p.1 p.2) by simp [List.all_eq_not_any_not])
  clear hT hR hC
  have HS := AllLt.start w; go_enter Tryd.func69, Tryd.ntmps69
  go_upto_region 1 with fail
  generalize (w.alloc (.cells (netV n R) 86)).alloc (.cells #[.func (.func C) #[] #[]] 90) = w2 at *
  go_wp2_with (refine ld_net rfl _ rfl rfl HA.out ?_)
  (with_reducible refine (edges_any n h6 R _).mono ?_)
  rintro e w3 ⟨⟨v, rfl, hown⟩, hb⟩
  have HE := hid (Es.of_own hown)
  have HB3 := hid (HB.out.trans (hb.mono HB.out.size))
  have HK3 := hid ((hb.cell (p := ⟨w.heap.size + 1, 0, none⟩) (by rw [hz2]; exact Nat.lt_succ_self _)).trans HK.out)
  have HX := hid (contE_any 122 (fun _ _ => by kernel_rfl) (.pointer (some ⟨w.heap.size + 1, 0, none⟩)) R (edL n) (fun p => !P (R p.1 p.2)) v w3 (edL_len h6) HE.out fun j hj w4 hb4 =>
    fit1_any C hcf P HC.out _ _ _ (w.heap.size + 1) (HR.out _ _) w4 (HT.out.below (HB3.out.trans (hb4.mono HB3.out.size))) ((hb4.cell (p := ⟨w.heap.size + 1, 0, none⟩) (cell_lt' HK3.out)).trans HK3.out))
  clear hown hb hz2
  go_wp2_with fail
  (with_reducible refine HX.out.mono ?_)
  rintro e w4 ⟨rfl, hb⟩
  have HB4 := hid (HB3.out.trans (hb.mono HB3.out.size))
  clear hb
  go_wp2_with fail
  go_ret
  exact ⟨ret_bool HV.out, HB4.out⟩
theorem ret_boolN {a b : Bool} (h : a = b) : Ending.returned (.bool (!a)) = .returned (.bool (!b)) := by rw [h]
/-! Empty networks -/
noncomputable def emp (n : Nat) (R : Nat → Nat → Nat) : Bool := !((edL n).all fun p => R p.1 p.2 != 0)
noncomputable def empI (z : Int) (s : ByteArray) : Bool := NV z s && emp z.toNat (mx z.toNat s)
theorem empI_no {z : Int} {s : ByteArray} (h : NV z s = false) : empI z s = false := by simp [empI, h]
theorem empI_yes {n : Nat} {R : Nat → Nat → Nat} (h : OkR n R) : empI n (netS n R) = emp n R := by simp [empI, nv_net h, mx_net h]
theorem emp_sq {n : Nat} {R : Nat → Nat → Nat} (h : OkR n R) : emp n R = true ↔ ∃ x, x < n * n ∧ R (x / n) (x % n) = 0 := by
  have := sq_all h (P := fun r => r != 0) (by decide) (fun r hr => by
    rw [Bool.eq_iff_iff, bne_iff_ne, bne_iff_ne]
    exact not_congr (tur_zero hr))
  have e : emp n R = true ↔ ¬ ((edL n).all fun p => R p.1 p.2 != 0) = true := by unfold emp; simp
  rw [e, List.all_eq_true, ← this]
  constructor
  · intro h
    exact Classical.byContradiction fun hn => h fun x hx => by
      rw [bne_iff_ne]
      exact fun e => hn ⟨x, hx, e⟩
  · rintro ⟨x, hx, e⟩ h
    have := h x hx
    rw [e] at this
    cases this
end Go.Proofs.YtmdgkhebefnfeaaDoor.C
