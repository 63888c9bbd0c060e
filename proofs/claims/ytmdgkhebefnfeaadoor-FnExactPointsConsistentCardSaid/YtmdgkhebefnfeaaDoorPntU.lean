/- The model opens a text to a table of orders and closes it again. -/
import Derived.Test.YtmdgkhebefnfeaaDoorPntT
namespace Go.Proofs.YtmdgkhebefnfeaaDoor.C
open Go.RowKit
set_option linter.unusedVariables false
set_option linter.unusedSimpArgs false
theorem conv9 (w : World) (T : TypeId) (x : UInt8) :
    (convert 140 9 (.slice (some ⟨w.heap.size, 0, none⟩) 1 1)).run Tryd.prog (w.alloc (.cells #[.int .u8 x.toNat] T)) = .ok (.string ⟨#[x]⟩) (w.alloc (.cells #[.int .u8 x.toNat] T)) := by
  rw [run_convert_bytes_string _ _ _ 5 _ _ _ Tryd.underlying140 Tryd.underlying5 Tryd.underlying9, run_bytesToString _ _ 1 1 [(x.toNat : Int)]]
  · simp
    rfl
  · have := run_loadCells_list (P := Tryd.prog) (w.alloc (.cells #[.int .u8 x.toNat] T)) ⟨w.heap.size, 0, none⟩ [.int .u8 x.toNat] (fun j v hj => by
      match j, hj with
      | 0, hj => simp at hj; subst hj; simp [Addr.add, go_sem])
    simpa using this
theorem conv_dg8 {n : Nat} (h : n < 8) (w : World) (T : TypeId) :
    (convert 140 9 (.slice (some ⟨w.heap.size, 0, none⟩) 1 1)).run Tryd.prog (w.alloc (.cells #[.int .u8 (48 + (n : Int))] T)) = .ok (.string ⟨#[dg8 n]⟩) (w.alloc (.cells #[.int .u8 (48 + (n : Int))] T)) := by
  have := conv9 w T (dg8 n)
  rw [dg8_toNat h] at this
  push_cast at this
  exact this
set_option maxHeartbeats 1000000 in
theorem dec8_any (n : Nat) (h : n < 8) (w : World) :
    Calls Tryd.prog 96 #[.int .i64 n] w fun e w' => e = .returned (.string ⟨#[dg8 n]⟩) ∧ Below w.heap.size w w' := by
  have hcv := fun w T => conv_dg8 h w T
  have h0 : decide ((n : Int) < -9223372036854775807) = false := decide_eq_false (by omega)
  have h1 : decide ((n : Int) < 0) = false := by simp
  have h9 : decide (9 < (n : Int)) = false := by simp; omega
  have hr : ∀ w : World, (Op.stringOp .add ⟨#[dg8 n]⟩ ⟨#[]⟩).run Tryd.prog w = .ok (.string ⟨#[dg8 n]⟩) w := fun w => by
    rw [run_string_add_sum (P := Tryd.prog) (w := w) _ _ (by show 1 + 0 ≤ 9223372036854775807; omega)]
    rfl
  have hu : IntKind.u8.wrap (48 + (n : Int)) = 48 + (n : Int) := by rw [IntKind.wrap_u8]; omega
  have HS := AllLt.start w; go_enter Tryd.func96, Tryd.ntmps96
  go_wp2_with fail
  go_loop [0, 3] (fun a o => a = .int .i64 n ∧ o = .string ⟨#[]⟩) (fun _ _ => 0)
  case atStart => exact ⟨rfl, rfl⟩
  case round =>
    obtain ⟨rfl, rfl⟩ := hrel
    clear HS
    go_wp2_with fail
    go_ret
    exact ⟨rfl, by (repeat' (first | (with_reducible exact Below.refl _ _) | (with_reducible refine Below.setCell ?_ ?_ _) | (with_reducible refine below_drewN' ?_ _) | (with_reducible refine below_drew' ?_) | (with_reducible refine Below.alloc ?_ ?_ _) | (with_reducible assumption) | go_size))⟩
theorem bt_idx1 (s : ByteArray) {x : Nat} (h : x < s.size) (w : World) : (Instr.index 9 (.string s) (.int .i64 (x : Int))).run Tryd.prog w = .ok (.int .u8 (bt s x).toNat) w := by
  rw [run_index_string w _ s _ _ Tryd.underlying9, dif_pos ⟨by omega, by omega⟩]
  simp only [Int.toNat_natCast]
  rw [bt_at h]
theorem Pk.alloc {w : World} {g : Nat} {z : Int} {s : ByteArray} (h : Pk w g z s) (o : Obj) : Pk (w.alloc o) g z s := (Below.heap_alloc w o g h.lt).trans h
theorem Pk.set1 {w : World} {g : Nat} {z : Int} {s : ByteArray} (h : Pk w g z s) (t : ByteArray) : Pk (w.setCell ⟨g, 1, none⟩ (.string t)) g z t := by
  unfold Pk
  rw [heap_setCell_same w g _ _ _ _ h]; rfl
theorem Pk.far {w : World} {g : Nat} {z : Int} {s : ByteArray} (h : Pk w g z s) {p : Addr} (hp : g ≠ p.block) (u : Value) : Pk (w.setCell p u) g z s := (heap_setCell_other w p g u hp).trans h
set_option maxHeartbeats 4000000 in
set_option maxRecDepth 100000 in
theorem l9Open_any (n : Nat) (N : Nat → Nat → Nat) (hN : OkP n N) (w : World) :
    Calls Tryd.prog 58 #[.agg #[.int .i64 n, .string (pntS n N)]] w fun e w' => (∃ u, e = .returned (.agg #[.int .i64 n, u]) ∧ w'.ownsRow (w.heap.size + 1 + 1 + 1) 3 1 u (n * n) (rL9 (flP n N) (n * n))) ∧ Below w.heap.size w w' := by
  obtain ⟨i0, hi0, hz0, hz1, hz2⟩ := info_parts int9
  have h144 : n * n ≤ 144 := Nat.mul_le_mul hN.le hN.le
  have hsz := pntS_size n N
  have HD := hid (show ∀ x, x < n * n → ((bt (pntS n N) x).toNat : Int) - 48 = ((flP n N x : Nat) : Int) from fun x hx => by
    obtain ⟨h1, h2, h3⟩ := div_lt' hx
    have := bt_pnt N h1 h2
    rw [h3] at this
    rw [this, dg8_toNat (hN.lt _ _ h1 h2)]
    show _ = ((N (x / n) (x % n) : Nat) : Int)
    omega)
  generalize pntS n N = s at *
  generalize flP n N = L at *
  generalize n * n = nn at *
  have HS4 := hid hsz
  clear hsz
  have HS := AllLt.start w; go_enter Tryd.func58, Tryd.ntmps58
  go_wp2_with fail
  go_loopw [4] (fun a wr => ∃ x : Nat, x ≤ nn ∧ a = .int .i64 (x : Int) ∧ ∃ u, Hid (Tq wr (w.heap.size + 1 + 1) n u) ∧ Hid (wr.ownsRow (w.heap.size + 1 + 1 + 1) 3 1 u x (rL9 L x)) ∧ Hid (Tq wr (w.heap.size + 1) 0 (.slice none 0 0)) ∧ Hid (Pk wr w.heap.size n s) ∧ Hid (Below w.heap.size w wr) ∧ Hid (w.heap.size + 1 + 1 + 1 ≤ wr.heap.size)) (fun a _ => nn - (intOf a).toNat)
  case atStart =>
    refine ⟨0, by omega, rfl, .slice none 0 0, ?_, ?_, ?_, ?_, ?_, ?_⟩
    · have h := Tq.made ((w.alloc (.cells #[.int .i64 (n : Int), .string s] 26)).alloc (.cells #[.int .i64 0, .slice none 0 0] 73)) n (.slice none 0 0)
      rw [World.size_alloc, World.size_alloc] at h
      exact hid h
    · exact hid (World.ownsRow_nil _ _ _ _)
    · have h := (Tq.made (w.alloc (.cells #[.int .i64 (n : Int), .string s] 26)) 0 (.slice none 0 0)).alloc (.cells #[.int .i64 (n : Int), .slice none 0 0] 73)
      rw [World.size_alloc] at h
      exact hid h
    · exact hid (Pk.alloc (Pk.alloc (Pk.made w n s) _) _)
    · exact hid ((((Below.refl _ _).alloc (Nat.le_refl _) _).alloc (by simp) _).alloc (by simp; omega) _)
    · exact hid (by rw [World.size_alloc, World.size_alloc, World.size_alloc]; omega)
  case round =>
    obtain ⟨x, hx, rfl, u, HT, HO, HR, HK, HB, HZ⟩ := hrel
    clear HS
    obtain ⟨wi, rfl⟩ : ∃ wi : World, wi = wr := ⟨_, rfl⟩
    have k1 := HK.out.c1
    by_cases hxn : x < nn
    · have hdi : decide ((x : Int) < (s.size : Int)) = true := by have := HS4.out; simp; omega
      have hdk : decide (x < s.size) = true := by have := HS4.out; simp; omega
      have t1 := HT.out.c1
      have hf := HT.out.fr 1
      have hss := HS4.out
      have hidx := fun wx => bt_idx1 s (x := x) (by omega) wx
      have HL := hid (HD.out x hxn)
      have b1 := bt_lt s x
      generalize (bt s x).toNat = a at *
      have hwa : IntKind.i64.wrap (a : Int) = (a : Int) := IntWalk.i64_in _ (by omega)
      have hwb : IntKind.i64.wrap ((a : Int) - 48) = (a : Int) - 48 := IntWalk.i64_in _ (by omega)
      have hne2 : some (w.heap.size + 1 + 1) ≠ u.ownBlock := fun e => by have := (HO.out.lt _ e.symm).1; omega
      have hne1 : some (w.heap.size + 1) ≠ u.ownBlock := fun e => by have := (HO.out.lt _ e.symm).1; omega
      have hne0 : some w.heap.size ≠ u.ownBlock := fun e => by have := (HO.out.lt _ e.symm).1; omega
      have H2 := hid hne2
      have H1 := hid hne1
      have H0 := hid hne0
      have hzz : w.heap.size + 1 + 1 < wi.heap.size := by have := HZ.out; omega
      have hzn : ¬ w.heap.size + 1 + 1 = wi.heap.size := by omega
      have hzm : ¬ wi.heap.size = w.heap.size + 1 + 1 := by omega
      have t2 : ∀ o : Obj, (wi.drew.alloc o).cell? ⟨w.heap.size + 1 + 1, 1, none⟩ = some u := fun o => (HT.out.below ((Below.refl wi.heap.size wi).drew.alloc (Nat.le_refl _) o) hzz).c1
      clear hss hne2 hne1 hne0
      go_wp2_with fail
      go_region_law (first
        | (refine step_append_lies _ (by rfl) _ _ 35 (by rfl) (w.heap.size + 1 + 1 + 1) 3 i0 _ 1 8 Tryd.underlying35 hi0 hz0 hz1 hz2 rfl (by decide) u x (rL9 L x) (by rfl) (own_bel HO.out (by (repeat' (first | (with_reducible exact Below.refl _ _) | (with_reducible refine Below.setCell ?_ ?_ _) | (with_reducible refine below_drewN' ?_ _) | (with_reducible refine below_drew' ?_) | (with_reducible refine Below.alloc ?_ ?_ _) | (with_reducible assumption) | go_size)))) ⟨wi.heap.size, 0, none⟩ 1 1 [.int .i64 ((a : Int) - 48)] (by rfl) (by rfl) (World.news_of_block (cs := #[.int .i64 ((a : Int) - 48)]) (fr := (0, 0)) (heap_alloc_new _ _)) (by simp [Value.oneCell']) (by omega) (by unfold maxLen; omega) (by omega) (by have := HZ.out; simp; omega) _ rfl ?_
           intro g cap w3 hown hgrow _ hlt
           have HT3 := hid (tq_grown HT.out hgrow (by (repeat' (first | (with_reducible exact Below.refl _ _) | (with_reducible refine Below.setCell ?_ ?_ _) | (with_reducible refine below_drewN' ?_ _) | (with_reducible refine below_drew' ?_) | (with_reducible refine Below.alloc ?_ ?_ _) | (with_reducible assumption) | go_size))) H2.out)
           have HR3 := hid (tq_grown HR.out hgrow (by (repeat' (first | (with_reducible exact Below.refl _ _) | (with_reducible refine Below.setCell ?_ ?_ _) | (with_reducible refine below_drewN' ?_ _) | (with_reducible refine below_drew' ?_) | (with_reducible refine Below.alloc ?_ ?_ _) | (with_reducible assumption) | go_size))) H1.out)
           have HK3 := hid (pk_grown HK.out hgrow (by (repeat' (first | (with_reducible exact Below.refl _ _) | (with_reducible refine Below.setCell ?_ ?_ _) | (with_reducible refine below_drewN' ?_ _) | (with_reducible refine below_drew' ?_) | (with_reducible refine Below.alloc ?_ ?_ _) | (with_reducible assumption) | go_size))) H0.out)
           have HB3 := hid ((HB.out.trans (Below.mono (show Below wi.heap.size wi _ from by (repeat' (first | (with_reducible exact Below.refl _ _) | (with_reducible refine Below.setCell ?_ ?_ _) | (with_reducible refine below_drewN' ?_ _) | (with_reducible refine below_drew' ?_) | (with_reducible refine Below.alloc ?_ ?_ _) | (with_reducible assumption) | go_size))) HB.out.size)).grown hgrow (by have := HB.out.size; simp; omega) (fun j hj => by have := (HO.out.lt j hj).1; omega))
           have HO3 := hid (show w3.ownsRow (w.heap.size + 1 + 1 + 1) 3 1 _ (x + 1) (rL9 L (x + 1)) by rw [← rL9_succ, ← HL.out]; exact hown)
           have HZ3 := hid (show w.heap.size + 1 + 1 + 1 ≤ w3.heap.size by have := hgrow.size; have := HZ.out; simp at *; omega)
           have t3 := HT3.out.c1
           have f3 := HT3.out.fr 1
           clear hown hgrow hlt))
      all_goals
        go_wp2_with fail
        go_roundw
        case rel =>
          refine ⟨x + 1, by omega, by go_num, _, hid (HT3.out.set1 _), ?_, hid (HR3.out.far (p := ⟨w.heap.size + 1 + 1, 1, none⟩) (by simp) _), hid (HK3.out.far (p := ⟨w.heap.size + 1 + 1, 1, none⟩) (show w.heap.size ≠ w.heap.size + 1 + 1 by omega) _), hid (HB3.out.setCell (p := ⟨w.heap.size + 1 + 1, 1, none⟩) (by simp; omega) _), hid (by simpa using HZ3.out)⟩
          exact hid (own_set9 HO3.out (p := ⟨w.heap.size + 1 + 1, 1, none⟩) (by simp) _)
        case measure => simp [intOf]; omega
    · obtain rfl : x = nn := by omega
      have hdi : decide ((x : Int) < (s.size : Int)) = false := by have := HS4.out; simp; omega
      have hdk : decide (x < s.size) = false := by have := HS4.out; simp; omega
      obtain ⟨ao, n', cap, rfl⟩ : ∃ ao n' cap, u = .slice ao n' cap := by
        rcases HO.out.2 with ⟨hv, _⟩ | ⟨g, cap, cur, hv, _⟩
        · exact ⟨_, _, _, hv⟩
        · exact ⟨_, _, _, hv⟩
      have t0 := HT.out.c0
      have t1 := HT.out.c1
      have r0 := HR.out.c0
      have r1 := HR.out.c1
      have rf0 := HR.out.fr 0
      have rf1 := HR.out.fr 1
      have HQ := hid (own_set9 (own_set9 HO.out (p := ⟨w.heap.size + 1, 0, none⟩) (show w.heap.size + 1 < w.heap.size + 1 + 1 + 1 by omega) (.int .i64 (n : Int))) (p := ⟨w.heap.size + 1, 1, none⟩) (show w.heap.size + 1 < w.heap.size + 1 + 1 + 1 by omega) (.slice ao n' cap))
      go_wp2_with fail
      refine bodyPost_ret (by simp [results, Tryd.results58, go_sem, *]; try rfl) rfl ?_
      exact ⟨⟨_, rfl, HQ.out⟩, (HB.out.setCell (p := ⟨w.heap.size + 1, 0, none⟩) (by simp) _).setCell (p := ⟨w.heap.size + 1, 1, none⟩) (by simp) _⟩
set_option maxHeartbeats 4000000 in
set_option maxRecDepth 100000 in
theorem l9Close_any (z : Int) (v : Value) (m : Nat) (hm : m ≤ 144) (L : Nat → Nat) (hL : ∀ j, j < m → L j < 8) (w : World) (hv : Tz9 w w.heap.size v m L) :
    Calls Tryd.prog 56 #[.agg #[.int .i64 z, v]] w fun e w' => e = .returned (.agg #[.int .i64 z, .string (dgB L m)]) ∧ Below w.heap.size w w' := by
  obtain ⟨a, cap, rfl, hE⟩ := hv
  have HE := hid hE
  have HL := hid hL
  clear hE hL
  have HS := AllLt.start w; go_enter Tryd.func56, Tryd.ntmps56
  go_wp2_with fail
  go_loopw [4] (fun v wr => ∃ j : Nat, j ≤ m ∧ v = .int .i64 j ∧ Hid (Pk wr (w.heap.size + 1 + 1) z (dgB L j)) ∧ Hid (Below (w.heap.size + 1 + 1) ((w.alloc (.cells #[.int .i64 z, .slice a m cap] 73)).alloc (.cells #[.int .i64 0, .string ⟨#[]⟩] 26)) wr)) (fun v _ => m - (intOf v).toNat)
  case atStart => exact ⟨0, by omega, rfl, hid (by have h := Pk.made ((w.alloc (.cells #[.int .i64 z, .slice a m cap] 73)).alloc (.cells #[.int .i64 0, .string ⟨#[]⟩] 26)) z (dgB L 0); rw [World.size_alloc, World.size_alloc] at h; exact h), hid ((Below.refl _ _).alloc (by simp) _)⟩
  case round =>
    obtain ⟨j, hj, rfl, HN, HB⟩ := hrel
    clear HS
    obtain ⟨wi, rfl⟩ : ∃ wi : World, wi = wr := ⟨_, rfl⟩
    have lt0 : w.heap.size < w.heap.size + 1 + 1 := by omega
    have lt1 : w.heap.size + 1 < w.heap.size + 1 + 1 := by omega
    have q0 : wi.cell? ⟨w.heap.size, 1, none⟩ = some (.slice a m cap) := by rw [HB.out.cell (p := ⟨w.heap.size, 1, none⟩) lt0]; simp [go_sem]
    have HR := hid (Pk.below (g := w.heap.size + 1) (z := 0) (s := ⟨#[]⟩) (by have h := Pk.made (w.alloc (.cells #[.int .i64 z, .slice a m cap] 73)) 0 ⟨#[]⟩; rw [World.size_alloc] at h; exact h) HB.out lt1)
    have HBw := hid (((((Below.refl w.heap.size w).alloc (Nat.le_refl _) (.cells #[.int .i64 z, .slice a m cap] 73)).alloc (by simp) (.cells #[.int .i64 0, .string ⟨#[]⟩] 26))).trans (HB.out.mono (by omega)))
    have n0 := HN.out.c0
    have n1 := HN.out.c1
    by_cases hjm : j < m
    · have hdj : decide ((j : Int) < (m : Int)) = true := by simp; omega
      have hdk : decide (j < m) = true := by simp; omega
      obtain ⟨g, rfl, hg, hc⟩ := HE.out j hjm
      have hg2 : g < w.heap.size + 1 + 1 := by omega
      have hq : wi.cell? ⟨g, j, none⟩ = some (.int .i64 ((L j : Nat) : Int)) := by
        rw [HB.out.cell (p := ⟨g, j, none⟩) hg2]
        exact ((((Below.refl w.heap.size w).alloc (Nat.le_refl _) _).alloc (by simp) _).cell (p := ⟨g, j, none⟩) hg).trans hc
      have hr8 := HL.out j hjm
      have fr := HN.out.fr 1
      have hNl := HN.out.lt
      have hl0 : w.heap.size < wi.heap.size := by omega
      have hlg : g < wi.heap.size := by omega
      have HD := hid (dec8_any (L j) hr8)
      have hrun : ∀ w : World, (Op.stringOp .add (dgB L j) ⟨#[dg8 (L j)]⟩).run Tryd.prog w = .ok (.string (dgB L j ++ ⟨#[dg8 (L j)]⟩)) w := fun w => run_string_add_sum (P := Tryd.prog) (w := w) _ _ (by rw [dgB_size]; show j + 1 ≤ 9223372036854775807; omega)
      go_wp2_with fail
      go_region_with (first | (go_at_call 96; (with_reducible refine (HD.out _).mono ?_); rintro e w5 ⟨rfl, hb'⟩; obtain ⟨HX, hz0', hz', hc', hf'⟩ := bst (w0 := wi) (by go_grown) hb'; have HN5 := HN.out.below HX hNl; have n5 := HN5.c1; have fr5 := HN5.fr 1; have q5 := (HX.cell (p := ⟨w.heap.size, 1, none⟩) hl0).trans q0; have hq5 := (HX.cell (p := ⟨g, j, none⟩) hlg).trans hq; clear hb' hf' hc' hz' hz0') | fail)
      all_goals
        go_wp2_with fail
        go_roundw
        case rel => exact ⟨j + 1, by omega, by go_num, hid (by rw [← dgB_succ]; exact HN5.set1 _), hid ((HB.out.trans (HX.mono (by omega))).setCell (p := ⟨w.heap.size + 1 + 1, 1, none⟩) (Nat.le_refl _) _)⟩
        case measure => simp [intOf]; omega
    · obtain rfl : j = m := by omega
      have hdj : decide ((j : Int) < (j : Int)) = false := by simp
      have r0 := HR.out.c0
      have r1 := HR.out.c1
      have rf0 := HR.out.fr 0
      have rf1 := HR.out.fr 1
      go_wp2_with fail
      refine bodyPost_ret (by simp [results, Tryd.results56, go_sem, *]; try rfl) rfl ?_
      exact ⟨rfl, (HBw.out.setCell (p := ⟨w.heap.size + 1, 0, none⟩) (by simp) _).setCell (p := ⟨w.heap.size + 1, 1, none⟩) (by simp) _⟩
end Go.Proofs.YtmdgkhebefnfeaaDoor.C
