/- The program's text of a network. -/
import Derived.Test.YtmdgkhebefnfeaaDoorNetG
import Derived.Test.YtmdgkhebefnfeaaDoorNetI
import Derived.Test.YtmdgkhebefnfeaaDoorBuilder
import Derived.Deep.DeepCutAuto
namespace Go.Proofs.YtmdgkhebefnfeaaDoor.C
open Go.RowKit
set_option linter.unusedVariables false
set_option linter.unusedSimpArgs false
theorem cat_step {n : Nat} {R : Nat → Nat → Nat} {i k : Nat} (hk : k < n) : catD (flt n R (i * n + k)) ++ (dig (R i k)).data.toList = catD (flt n R (i * n + (k + 1))) := by
  have h := at_div (i := i) hk
  rw [show i * n + (k + 1) = (i * n + k) + 1 by omega, flt_succ, catD_snoc, h.1, h.2]; rfl
theorem ret_net {a : Int} {b c : ByteArray} (h : b = c) : Ending.returned (.agg #[.int .i64 a, .string b]) = .returned (.agg #[.int .i64 a, .string c]) := by rw [h]
theorem cat_row (n : Nat) (R : Nat → Nat → Nat) (i : Nat) : catD (flt n R (i * n + n)) = catD (flt n R ((i + 1) * n + 0)) := by
  rw [show (i + 1) * n + 0 = i * n + n by rw [Nat.add_mul]; omega]
theorem Bw.further {w0 : World} {b : Nat} {l : List UInt8} {w w' : World} (h : Bw w0 b l w) (hb : Below w.heap.size w w') : Bw w0 b l w' := by
  obtain ⟨h1, h2⟩ := h
  have key : ∀ p, Lib.BuilderAt 142 5 w0.heap.size b p (Lib.byteCells l) w → Lib.BuilderAt 142 5 w0.heap.size b p (Lib.byteCells l) w' := by
    rintro p ⟨hB, v, hbk, hown, hne⟩
    have hlt := (Array.getElem?_eq_some_iff.1 hbk).1
    exact ⟨hB, v, (hb.block b hlt).trans hbk, own_below' hown hb, hne⟩
  exact ⟨h1.imp (key _) (key _), h2.trans (hb.mono h2.size)⟩
theorem Bw.congr {w0 : World} {b : Nat} {l m : List UInt8} {w : World} (h : Bw w0 b l w) (e : l = m) : Bw w0 b m w := by rw [← e]; exact h
/-- A network's text in a block of its own. -/
def Nk (w : World) (g : Nat) (z : Int) (s : ByteArray) : Prop := w.heap[g]? = some (.cells #[.int .i64 z, .string s] 44 (0, 0))
section
variable {w w' : World} {g : Nat} {z : Int} {s : ByteArray}
theorem Nk.lt (h : Nk w g z s) : g < w.heap.size := (Array.getElem?_eq_some_iff.1 h).1
theorem Nk.made (w : World) (z : Int) (s : ByteArray) : Nk (w.alloc (.cells #[.int .i64 z, .string s] 44)) w.heap.size z s := heap_alloc_new w _
theorem Nk.below {B : Nat} (h : Nk w g z s) (hb : Below B w w') (hg : g < B) : Nk w' g z s := (hb.block g hg).trans h
theorem Nk.c0 (h : Nk w g z s) : w.cell? ⟨g, 0, none⟩ = some (.int .i64 z) := by rw [cell_of_row w g _ _ _ _ h]; rfl
theorem Nk.c1 (h : Nk w g z s) : w.cell? ⟨g, 1, none⟩ = some (.string s) := by rw [cell_of_row w g _ _ _ _ h]; rfl
theorem Nk.fr (h : Nk w g z s) (j : Nat) : w.frozen? ⟨g, j, none⟩ = false := frozen_of_row w g j _ _ h
theorem Nk.set1 (h : Nk w g z s) (t : ByteArray) : Nk (w.setCell ⟨g, 1, none⟩ (.string t)) g z t := by
  unfold Nk
  rw [heap_setCell_same w g _ _ _ _ h]; rfl
theorem Nk.far (h : Nk w g z s) {p : Addr} (hp : g ≠ p.block) (u : Value) : Nk (w.setCell p u) g z s := (heap_setCell_other w p g u hp).trans h
end
set_option maxHeartbeats 4000000 in
set_option maxRecDepth 100000 in
theorem net_any (n : Nat) (h6 : n ≤ 6) (R : Nat → Nat → Nat) (hR : ∀ i k, R i k < 8192) (w : World) :
    Calls Tryd.prog 87 #[.agg (netV n R)] w fun e w' => e = .returned (.agg #[.int .i64 n, .string (netS n R)]) ∧ Below w.heap.size w w' := by
  have HH := hid hR
  clear hR
  have HS := AllLt.start w; go_enter Tryd.func87, Tryd.ntmps87
  go_upto_region 2 with fail
  have HB0 := hid (show Bw ((w.alloc (.cells (netV n R) 86)).alloc (.cells #[.int .i64 0, .string ⟨#[]⟩] 44)) (w.heap.size + 1 + 1) [] (((w.alloc (.cells (netV n R) 86)).alloc (.cells #[.int .i64 0, .string ⟨#[]⟩] 44)).alloc (.cells #[.pointer none, .slice none 0 0] 142)) by
    have h := Bw.start _ ((w.alloc (.cells (netV n R) 86)).alloc (.cells #[.int .i64 0, .string ⟨#[]⟩] 44)) (Below.refl _ _)
    rw [World.size_alloc, World.size_alloc] at h
    exact h)
  have HN0 := hid ((NB.made w n R).alloc (.cells #[.int .i64 0, .string ⟨#[]⟩] 44))
  have HK0 := hid (show Nk ((w.alloc (.cells (netV n R) 86)).alloc (.cells #[.int .i64 0, .string ⟨#[]⟩] 44)) (w.heap.size + 1) 0 ⟨#[]⟩ by
    have h := Nk.made (w.alloc (.cells (netV n R) 86)) 0 ⟨#[]⟩
    rw [World.size_alloc] at h
    exact h)
  have HZ := hid (((Below.refl w.heap.size w).alloc (Nat.le_refl _) (.cells (netV n R) 86)).alloc (by simp) (.cells #[.int .i64 0, .string ⟨#[]⟩] 44))
  generalize hw1 : ((w.alloc (.cells (netV n R) 86)).alloc (.cells #[.int .i64 0, .string ⟨#[]⟩] 44)).alloc (.cells #[.pointer none, .slice none 0 0] 142) = w1 at *
  clear hw1
  generalize hw0 : (w.alloc (.cells (netV n R) 86)).alloc (.cells #[.int .i64 0, .string ⟨#[]⟩] 44) = w0 at *
  have hsz : Hid (w0.heap.size = w.heap.size + 1 + 1) := hid (by rw [← hw0, World.size_alloc, World.size_alloc])
  clear hw0
  have hc1 := (HN0.out.below HB0.out.2 (by rw [hsz.out]; omega)).cell0
  go_wp2_with fail
  clear hc1
  go_loopw [9] (fun v wr => ∃ i : Nat, i ≤ n ∧ v = .int .i64 i ∧ Hid (Bw w0 (w.heap.size + 1 + 1) (catD (flt n R (i * n + 0))) wr)) (fun v _ => n - (intOf v).toNat)
  case atStart => exact ⟨0, by omega, rfl, hid (HB0.out.congr (by simp [flt, catD]))⟩
  case round =>
    obtain ⟨i, hi, rfl, HB⟩ := hrel
    clear HS HB0
    by_cases hin : i < n
    · have hdi : decide ((i : Int) < (n : Int)) = true := by simp; omega
      have hc2 := (HN0.out.below HB.out.2 (by rw [hsz.out]; omega)).cell0
      go_wp2_with fail
      clear hc2
      go_loopw [15] (fun v wr => ∃ k : Nat, k ≤ n ∧ v = .int .i64 k ∧ Hid (Bw w0 (w.heap.size + 1 + 1) (catD (flt n R (i * n + k))) wr)) (fun v _ => n - (intOf v).toNat)
      case atStart => exact ⟨0, by omega, rfl, HB⟩
      case round =>
        obtain ⟨k, hk, rfl, HB2⟩ := hrel
        obtain ⟨wi, rfl⟩ : ∃ wi : World, wi = wr := ⟨_, rfl⟩
        by_cases hkn : k < n
        · have hdk : decide ((k : Int) < (n : Int)) = true := by simp; omega
          have i6 : i < 6 := by omega
          have k6 : k < 6 := by omega
          have hc := (HN0.out.below HB2.out.2 (by rw [hsz.out]; omega)).cell i6 k6
          have HG := hid (rdigits_any (R i k) (by have := HH.out i k; omega))
          have HST := hid (cat_step (R := R) (i := i) hkn)
          have HLE := hid (show (catD (flt n R (i * n + k))).length + (dig (R i k)).size ≤ 140737488355328 by
            have h1 := at_lt hin hkn
            have h2 : n * n ≤ 36 := Nat.mul_le_mul h6 h6
            rw [catD_len, flt_len, dig_size]; omega)
          go_wp2_with fail
          (with_reducible refine (HG.out _).mono ?_)
          rintro e w2 ⟨rfl, hb⟩
          have HB3 := hid (HB2.out.further hb)
          clear hb hc
          go_wp2_with fail
          (with_reducible refine (WriteString_w w0 _ _ (dig (R i k)) _ HB3.out HLE.out).mono ?_)
          rintro e w3 ⟨rfl, hb⟩
          have HB4 := hid (hb.congr HST.out)
          clear hb
          go_wp2_with fail
          go_roundw
          case rel => exact ⟨k + 1, by omega, by go_num, HB4⟩
          case measure => simp [intOf]; omega
        · obtain rfl : k = n := by omega
          have hdk : decide ((k : Int) < (k : Int)) = false := by simp
          have HB4 := hid (HB2.out.congr (cat_row k R i))
          go_wp2_with fail
          go_roundw
          case rel => exact ⟨i + 1, by omega, by go_num, HB4⟩
          case measure => simp [intOf]; omega
    · obtain rfl : i = n := by omega
      have hdi : decide ((i : Int) < (i : Int)) = false := by simp
      have hx := HN0.out.below HB.out.2 (by rw [hsz.out]; omega)
      have c0 := hx.cell0
      have HKr := HK0.out.below HB.out.2 (by rw [hsz.out]; omega)
      have r0 := HKr.c0
      have r1 := HKr.c1
      have rf0 := HKr.fr 0
      have rf1 := HKr.fr 1
      clear hx HKr
      have HBd := hid (HB.out.further ((Below.refl _ _).drew))
      go_wp2_with fail
      go_region_with (first | (go_at_call 110; (with_reducible refine (String_w w0 _ _ _ HBd.out).mono ?_); rintro e w2 ⟨rfl, hb⟩; have HB5 := hid hb; have hx := HN0.out.below hb (by rw [hsz.out]; omega); have c5 := hx.cell0; have HKr := HK0.out.below hb (by rw [hsz.out]; omega); have s0 := HKr.c0; have s1 := HKr.c1; have sf0 := HKr.fr 0; have sf1 := HKr.fr 1; clear hx HKr hb) | fail)
      all_goals
        go_wp2_with fail
        refine bodyPost_ret (by simp [results, Tryd.results87, go_sem, *]; try rfl) rfl ?_
        exact ⟨ret_net (by rfl), ((HZ.out.trans (HB5.out.mono (by rw [hsz.out]; omega))).setCell (p := ⟨w.heap.size + 1, 0, none⟩) (by simp) _).setCell (p := ⟨w.heap.size + 1, 1, none⟩) (by simp) _⟩
end Go.Proofs.YtmdgkhebefnfeaaDoor.C
