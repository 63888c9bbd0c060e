/- The program reads a network. The program reads a network of a size that there is not. The program reads a network. -/
import Derived.Test.YtmdgkhebefnfeaaDoorNetI
import Derived.Test.YtmdgkhebefnfeaaDoorNetG
import Derived.Deep.RegionWith
import Derived.Deep.WholeRow
import Derived.Deep.DeepCutAuto
import Derived.Test.YtmdgkhebefnfeaaDoorNetS
namespace Go.Proofs.YtmdgkhebefnfeaaDoor.C
section
open Go.RowKit
set_option linter.unusedVariables false
set_option linter.unusedSimpArgs false
/-- the matrix under way -/
def stg (n : Nat) (s : ByteArray) (i k : Nat) : Nat → Nat → Nat := fun a b => if a < n ∧ b < n then (if a < i ∨ a = i ∧ b < k then mx n s a b else freR n a b) else 0
theorem stg_start (n : Nat) (s : ByteArray) : stg n s 0 0 = freR n := by
  funext a b
  unfold stg
  split
  · rw [if_neg (by omega)]
  · rename_i h; rw [freR_off h]
theorem stg_end (n : Nat) (s : ByteArray) : stg n s n 0 = mx n s := by
  funext a b
  unfold stg
  split
  · rw [if_pos (by omega)]
  · rename_i h; rw [mx_off h]
theorem stg_row {n i : Nat} (s : ByteArray) : stg n s i n = stg n s (i + 1) 0 := by
  funext a b
  unfold stg
  split
  · have : (a < i ∨ a = i ∧ b < n) ↔ (a < i + 1 ∨ a = i + 1 ∧ b < 0) := by omega
    simp only [this]
  · rfl
theorem stg_one {n i k : Nat} (s : ByteArray) (hi : i < n) (hk : k < n) : upd (stg n s i k) i k (mx n s i k) = stg n s i (k + 1) := by
  funext a b
  unfold upd stg
  by_cases e : a = i ∧ b = k
  · obtain ⟨rfl, rfl⟩ := e
    rw [if_pos ⟨rfl, rfl⟩, if_pos ⟨hi, hk⟩, if_pos (by omega)]
  · rw [if_neg e]
    split
    · have : (a < i ∨ a = i ∧ b < k) ↔ (a < i ∨ a = i ∧ b < k + 1) := by omega
      simp only [this]
    · rfl
theorem size2 (w : World) (A B : Obj) : w.heap.size + 2 ≤ ((w.alloc A).alloc B).heap.size := by simp
/-- What networkOf knows of the world. -/
structure NO (w wr : World) (z : Int) (s : ByteArray) (b n : Nat) (M : Nat → Nat → Nat) : Prop where
  a0 : wr.cell? ⟨w.heap.size, 0, none⟩ = some (.int .i64 z)
  a1 : wr.cell? ⟨w.heap.size, 1, none⟩ = some (.string s)
  res : NB wr (w.heap.size + 1) 0 fun _ _ => 0
  loc : NB wr b n M
  bel : Below w.heap.size w wr
  lt : w.heap.size + 1 < b
theorem NO.below {w wr wr' : World} {z : Int} {s : ByteArray} {b n : Nat} {M : Nat → Nat → Nat} (h : NO w wr z s b n M) (hb : Below wr.heap.size wr wr') : NO w wr' z s b n M where
  a0 := by have := h.res.lt; rw [hb.cell (p := ⟨w.heap.size, 0, none⟩) (by simp; omega)]; exact h.a0
  a1 := by have := h.res.lt; rw [hb.cell (p := ⟨w.heap.size, 1, none⟩) (by simp; omega)]; exact h.a1
  res := h.res.below' hb
  loc := h.loc.below' hb
  bel := h.bel.trans (hb.mono h.bel.size)
  lt := h.lt
theorem NO.set {w wr : World} {z : Int} {s : ByteArray} {b n : Nat} {M : Nat → Nat → Nat} (h : NO w wr z s b n M) {i k : Nat} (v : Nat) (hi : i < 6) (hk : k < 6) : NO w (wr.setCell ⟨b, 1 + i * 6 + k, none⟩ (.int .i64 (v : Int))) z s b n (upd M i k v) where
  a0 := by have := h.lt; rw [World.cell?_of_block (w := wr) (Below.heap_setCell wr ⟨b, 1 + i * 6 + k, none⟩ _ w.heap.size (by simp; omega))]; exact h.a0
  a1 := by have := h.lt; rw [World.cell?_of_block (w := wr) (Below.heap_setCell wr ⟨b, 1 + i * 6 + k, none⟩ _ w.heap.size (by simp; omega))]; exact h.a1
  res := h.res.far (p := ⟨b, 1 + i * 6 + k, none⟩) (by have := h.lt; simp; omega) _
  loc := h.loc.set v hi hk
  bel := h.bel.setCell (p := ⟨b, 1 + i * 6 + k, none⟩) (by have := h.lt; simp; omega) _
  lt := h.lt
theorem NO.congr {w wr : World} {z : Int} {s : ByteArray} {b n : Nat} {M N : Nat → Nat → Nat} (h : NO w wr z s b n M) (e : M = N) : NO w wr z s b n N := by rw [← e]; exact h
/-- behind the free network -/
theorem NO.start {w w1 : World} {z : Int} {s : ByteArray} {T : TypeId} (hb : Below (w.heap.size + 2) ((w.alloc (.cells #[.int .i64 z, .string s] T)).alloc (.cells (netV 0 fun _ _ => 0) 86)) w1) (n : Nat) (M : Nat → Nat → Nat) :
    NO w ((w1.alloc (.cells (netV 0 fun _ _ => 0) 86)).setRow w1.heap.size (netV n M)) z s w1.heap.size n M := by
  have hsz : w.heap.size + 2 ≤ w1.heap.size := by have := hb.size; simpa using this
  have hR : NB w1 (w.heap.size + 1) 0 fun _ _ => 0 := by
    have := (NB.made (w.alloc (.cells #[.int .i64 z, .string s] T)) 0 fun _ _ => 0).below hb (by simp)
    simpa using this
  have hc : ∀ i, w1.cell? ⟨w.heap.size, i, none⟩ = (#[Value.int .i64 z, .string s] : Array Value)[i]? := fun i => by
    rw [hb.cell (p := ⟨w.heap.size, i, none⟩) (by simp)]
    simp [go_sem]
  have hrow : ∀ i, ((w1.alloc (.cells (netV 0 fun _ _ => 0) 86)).setRow w1.heap.size (netV n M)).cell? ⟨w.heap.size, i, none⟩ = (#[Value.int .i64 z, .string s] : Array Value)[i]? := fun i => by
    rw [World.setRow_alloc_new, World.cell?_of_block (w := w1) (Below.heap_alloc w1 _ w.heap.size (by omega))]
    exact hc i
  exact {
    a0 := hrow 0
    a1 := hrow 1
    res := (hR.alloc _).rowFar (by omega) _
    loc := (NB.made w1 0 fun _ _ => 0).row n M
    bel := below_setRow ((((Below.refl w.heap.size w).alloc (Nat.le_refl _) _).alloc (by simp) _).trans (hb.mono (by omega)) |>.alloc (by omega) _) (by omega) _
    lt := by omega }
theorem NO.drew {w wr : World} {z : Int} {s : ByteArray} {b n : Nat} {M : Nat → Nat → Nat} (h : NO w wr z s b n M) : NO w wr.drew z s b n M := h.below (Below.refl wr.heap.size wr).drew
/-- What networkOf leaves at a size that networks can have. -/
def NRes (n : Nat) (s : ByteArray) (w : World) (e : Ending) (w' : World) : Prop :=
  (e = .returned (.tuple #[.agg (netV n (mx n s)), .bool true]) ∧ NV n s = true ∨ e = .returned (.tuple #[.agg (netV 0 fun _ _ => 0), .bool false]) ∧ NV n s = false) ∧ Below w.heap.size w w'
theorem NRes.yes {n : Nat} {s : ByteArray} {w w' : World} (h : NV n s = true) (hb : Below w.heap.size w w') : NRes n s w (.returned (.tuple #[.agg (netV n (mx n s)), .bool true])) w' := ⟨.inl ⟨rfl, h⟩, hb⟩
theorem NRes.no {n : Nat} {s : ByteArray} {w w' : World} (h : NV n s = false) (hb : Below w.heap.size w w') : NRes n s w (.returned (.tuple #[.agg (netV 0 fun _ _ => 0), .bool false])) w' := ⟨.inr ⟨rfl, h⟩, hb⟩
end
section
open Go.RowKit
set_option linter.unusedVariables false
set_option linter.unusedSimpArgs false
set_option maxHeartbeats 1000000 in
/-- A size that networks have not. -/
theorem networkOf_size (z : Int) (s : ByteArray) (hz : ¬ (1 ≤ z ∧ z ≤ 6)) (w : World) :
    Calls Tryd.prog 68 #[.agg #[.int .i64 z, .string s]] w fun e w' => e = .returned (.tuple #[.agg (netV 0 fun _ _ => 0), .bool false]) ∧ Below w.heap.size w w' := by
  have HF := hid (free_off z hz)
  clear hz
  have HS := AllLt.start w; go_enter Tryd.func68, Tryd.ntmps68
  go_wp2_with (refine al_net rfl rfl ?_)
  (with_reducible refine (HF.out _).mono ?_)
  rintro e w1 ⟨rfl, hb⟩
  have HO : Hid (NO w ((w1.alloc (.cells (netV 0 fun _ _ => 0) 86)).setRow w1.heap.size (netV 0 fun _ _ => 0)) z s w1.heap.size 0 fun _ _ => 0) := hid (NO.start (hb.mono (size2 w _ _)) 0 _)
  clear hb
  generalize hw2 : (w1.alloc (.cells (netV 0 fun _ _ => 0) 86)).setRow w1.heap.size (netV 0 fun _ _ => 0) = w2 at *
  have HR := HO.out.res
  go_upto_region 2 with (first | refine al_net rfl rfl ?_ | (refine st_net rfl _ _ rfl rfl rfl (NB.made w1 0 fun _ _ => 0) ?_; rw [hw2]))
  go_upto_region 3 with (fail)
  go_wp2_with (first | refine bu_net rfl rfl ?_ | refine st_net rfl _ _ rfl rfl rfl HR ?_)
  refine bodyPost_ret (res_net2 rfl _ _ _ _ _ rfl rfl (NB.row HR _ _)) rfl ?_
  exact ⟨rfl, below_setRow HO.out.bel (by omega) _⟩
set_option maxHeartbeats 1000000 in
/-- A text that is too long or too short. -/
theorem networkOf_len (n : Nat) (h1 : 1 ≤ n) (h6 : n ≤ 6) (s : ByteArray) (hsz : ¬ s.size = 4 * (n * n)) (w : World) :
    Calls Tryd.prog 68 #[.agg #[.int .i64 n, .string s]] w (NRes n s w) := by
  have HNV := hid (show NV n s = false from nv_no h1 h6 fun h => hsz h.size)
  have hnn : (4 * (n : Int)) * (n : Int) = ((4 * (n * n) : Nat) : Int) := by push_cast; rw [Int.mul_assoc]
  have hn36 : n * n ≤ 36 := Nat.mul_le_mul h6 h6
  generalize n * n = nn at *
  have hszq : ((s.size : Int) != 4 * (nn : Int)) = true := by rw [bne_iff_ne]; omega
  clear hsz
  have HS := AllLt.start w; go_enter Tryd.func68, Tryd.ntmps68
  go_wp2_with (refine al_net rfl rfl ?_)
  (with_reducible refine (free_on n h1 h6 _).mono ?_)
  rintro e w1 ⟨rfl, hb⟩
  have HO := hid (NO.start (z := n) (s := s) (hb.mono (size2 w _ _)) n (freR n))
  clear hb
  generalize hw2 : (w1.alloc (.cells (netV 0 fun _ _ => 0) 86)).setRow w1.heap.size (netV n (freR n)) = w2 at *
  have q0 := HO.out.a0
  have q1 := HO.out.a1
  have HR := HO.out.res
  go_wp2_with (first | refine al_net rfl rfl ?_ | refine bu_net rfl rfl ?_ | (refine st_net rfl _ _ rfl rfl rfl (NB.made _ _ _) ?_; rw [hw2]) | refine st_net rfl _ _ rfl rfl rfl HR ?_)
  refine bodyPost_ret (res_net2 rfl _ _ _ _ _ rfl rfl (NB.row HR _ _)) rfl ?_
  exact .no HNV.out (below_setRow HO.out.bel (by omega) _)
end
section
open Go.RowKit
set_option linter.unusedVariables false
set_option linter.unusedSimpArgs false
theorem sndB_chk {n : Nat} {s : ByteArray} (hs : s.size = 4 * (n * n)) (hv : ∀ a b, a < n → b < n → rv (nb (dgs s (a * n + b))) = true) : sndB n (mx n s) = true ↔ Chk n s := by
  unfold sndB
  rw [Bool.and_eq_true, List.all_eq_true, List.all_eq_true]
  constructor
  · rintro ⟨h1, h2⟩
    exact chk_half hs hv (fun i hi => by simpa using h1 i (List.mem_range.2 hi)) fun i k hik hk => by simpa using h2 (i, k) (edL_mem.2 ⟨hik, hk⟩)
  · intro h
    exact ⟨fun i hi => by simpa using h.one i (List.mem_range.1 hi), fun p hp => by
      obtain ⟨h1, h2⟩ := edL_mem.1 hp
      simpa using h.tur p.1 p.2 (by omega) h2⟩
set_option maxHeartbeats 4000000 in
set_option maxRecDepth 100000 in
theorem networkOf_some (n : Nat) (h1 : 1 ≤ n) (h6 : n ≤ 6) (s : ByteArray) (w : World) (hT : TB w) :
    Calls Tryd.prog 68 #[.agg #[.int .i64 n, .string s]] w (NRes n s w) := by
  have HT := hid hT
  clear hT
  have hnn : (4 * (n : Int)) * (n : Int) = ((4 * (n * n) : Nat) : Int) := by push_cast; rw [Int.mul_assoc]
  have hn36 : n * n ≤ 36 := Nat.mul_le_mul h6 h6
  by_cases hsz : s.size = 4 * (n * n)
  · have HCH := hid (sndB_chk hsz)
    have HNC := hid (nv_chk (s := s) h1 h6)
    generalize hnq : n * n = nn at *
    have hszq : ((s.size : Int) != 4 * (nn : Int)) = false := by rw [hsz]; simp
    have HS4 := hid hsz
    have HNQ := hid hnq
    clear hsz hnq
    have HS := AllLt.start w; go_enter Tryd.func68, Tryd.ntmps68
    go_wp2_with (refine al_net rfl rfl ?_)
    (with_reducible refine (free_on n h1 h6 _).mono ?_)
    rintro e w1 ⟨rfl, hb⟩
    have HO := hid ((NO.start (z := n) (s := s) (hb.mono (size2 w _ _)) n (freR n)).congr (stg_start n s).symm)
    clear hb
    generalize hw2 : (w1.alloc (.cells (netV 0 fun _ _ => 0) 86)).setRow w1.heap.size (netV n (freR n)) = w2 at *
    have q0 := HO.out.a0
    have q1 := HO.out.a1
    go_wp2_with (first | refine al_net rfl rfl ?_ | (refine st_net rfl _ _ rfl rfl rfl (NB.made _ _ _) ?_; rw [hw2]))
    go_loopw [32] (fun v wr => ∃ i : Nat, i ≤ n ∧ v = .int .i64 i ∧ Hid (∀ a b, a < i → b < n → rv (nb (dgs s (a * n + b))) = true) ∧ Hid (NO w wr n s w1.heap.size n (stg n s i 0))) (fun v _ => n - (intOf v).toNat)
    case atStart => exact ⟨0, by omega, rfl, hid (fun a b ha => by omega), HO⟩
    case round =>
      obtain ⟨i, hi, rfl, HV, HN⟩ := hrel
      clear HS q0 q1 HO
      have q0 := HN.out.a0
      by_cases hin : i < n
      · have hdi : decide ((i : Int) < (n : Int)) = true := by simp; omega
        go_wp2
        clear q0
        go_loopw [37] (fun v wr => ∃ k : Nat, k ≤ n ∧ v = .int .i64 k ∧ Hid (∀ b, b < k → rv (nb (dgs s (i * n + b))) = true) ∧ Hid (NO w wr n s w1.heap.size n (stg n s i k))) (fun v _ => n - (intOf v).toNat)
        case atStart => exact ⟨0, by omega, rfl, hid (fun b hb => by omega), HN⟩
        case round =>
          obtain ⟨k, hk, rfl, HV2, HN2⟩ := hrel
          obtain ⟨wi, rfl⟩ : ∃ wi : World, wi = wr := ⟨_, rfl⟩
          have q0 := HN2.out.a0
          have q1 := HN2.out.a1
          by_cases hkn : k < n
          · have hdk : decide ((k : Int) < (n : Int)) = true := by simp; omega
            have hlt := at_lt hin hkn
            obtain ⟨x, hx⟩ : ∃ x : Nat, x = i * n := ⟨_, rfl⟩
            have hmul : (i : Int) * (n : Int) = (x : Int) := by rw [hx]; push_cast; rfl
            have hx36 : x + k < nn := by rw [hx, ← HNQ.out]; exact hlt
            have HX := hid hx
            clear hx hlt
            have i6 : i < 6 := by omega
            have k6 : k < 6 := by omega
            have hc := HN2.out.loc.cell i6 k6
            have hf := HN2.out.loc.frozen (1 + i * 6 + k)
            have hss : 4 * nn ≤ s.size := by have := HS4.out; omega
            have hsl : ∀ wx : World, (Instr.slice 9 (.string s) (some (.int .i64 (4 * ((x : Int) + (k : Int))))) (some (.int .i64 (4 * ((x : Int) + (k : Int)) + 4))) none).run Tryd.prog wx = .ok (.string (dgs s (x + k))) wx := fun wx => by have h := slice_dgs s (x + k) (by omega) wx; push_cast at h; exact h
            have b0 : (0 : Int) ≤ 4 * ((x : Int) + (k : Int)) := by omega
            have b1 : 4 * ((x : Int) + (k : Int)) ≤ 4 * ((x : Int) + (k : Int)) + 4 := by omega
            have b2 : 4 * ((x : Int) + (k : Int)) + 4 ≤ (s.size : Int) := by omega
            have hw4 : IntKind.i64.wrap (4 * ((x : Int) + (k : Int)) + 4) = 4 * ((x : Int) + (k : Int)) + 4 := IntWalk.i64_in _ (by omega)
            have HD := hid (relOfDigits_any (dgs s (x + k)) (dgs_size HS4.out hx36))
            cases hv : rv (nb (dgs s (x + k)))
            · have HV4 := hid hv
              have HR4 := hid (rdI_off hv)
              have HNO := hid ((HN2.out.set 0 i6 k6).drew)
              have HNV := hid (show NV n s = false from by
                cases e : NV n s
                · rfl
                · have := (HNC.out.1 e).val i k hin hkn
                  rw [← HX.out, hv] at this
                  cases this)
              have HRS := HNO.out.res
              clear hv
              go_wp2_with fail
              go_region_with (first | (go_at_call 118; (with_reducible refine (HD.out _).mono ?_); rintro e w' ⟨rfl, rfl⟩; rw [HR4.out, HV4.out]) | fail)
              all_goals
                go_wp2_with (first | refine bu_net rfl rfl ?_ | refine st_net rfl _ _ rfl rfl rfl HRS ?_)
                refine bodyPost_ret (res_net2 rfl _ _ _ _ _ rfl rfl (NB.row HRS _ _)) rfl ?_
                exact .no HNV.out (below_setRow HNO.out.bel (by omega) _)
            · have hmx := mx_nb hin hkn (by rw [← HX.out]; exact hv)
              rw [← HX.out] at hmx
              have HV4 := hid hv
              have HR4 := hid (rdI_on hmx.2 hmx.1).1
              have HNO := hid (((HN2.out.set (mx n s i k) i6 k6).drew).congr (stg_one s hin hkn))
              have HV3 := hid (show ∀ b, b < k + 1 → rv (nb (dgs s (i * n + b))) = true from fun b hb => by
                by_cases e : b = k
                · rw [e, ← HX.out]; exact hv
                · exact HV2.out b (by omega))
              clear hv hmx
              go_wp2_with fail
              go_region_with (first | (go_at_call 118; (with_reducible refine (HD.out _).mono ?_); rintro e w' ⟨rfl, rfl⟩; rw [HR4.out, HV4.out]) | fail)
              all_goals
                go_wp2
                go_roundw
                case rel => exact ⟨k + 1, by omega, by go_num, HV3, HNO⟩
                case measure => simp [intOf]; omega
          · obtain rfl : k = n := by omega
            have hdk : decide ((k : Int) < (k : Int)) = false := by simp
            have HV3 := hid (show ∀ a b, a < i + 1 → b < k → rv (nb (dgs s (a * k + b))) = true from fun a b ha hb => by
              by_cases e : a = i
              · rw [e]; exact HV2.out b hb
              · exact HV.out a b (by omega) hb)
            have HNO := hid (HN2.out.congr (stg_row s))
            go_wp2
            go_roundw
            case rel => exact ⟨i + 1, by omega, by go_num, HV3, HNO⟩
            case measure => simp [intOf]; omega
      · obtain rfl : i = n := by omega
        have hdi : decide ((i : Int) < (i : Int)) = false := by simp
        have HNO := hid (HN.out.congr (stg_end i s))
        have HC := hid (HCH.out HV.out)
        have hM : ∀ a b, mx i s a b < 8192 := fun a b => by
          by_cases h : a < i ∧ b < i
          · exact (mx_nb h.1 h.2 (HV.out a b h.1 h.2)).2
          · rw [mx_off h]; omega
        have HSND := hid (fun wx h => isSound_any i h6 (mx i s) hM wx h)
        have HL := HNO.out.loc
        clear hM
        go_wp2_with (refine ld_net rfl _ rfl rfl HL ?_)
        (with_reducible refine (HSND.out _ (HT.out.below HNO.out.bel)).mono ?_)
        rintro e w4 ⟨rfl, hb⟩
        have HN5 := hid (HNO.out.below hb)
        have HR5 := HN5.out.res
        have HL5 := HN5.out.loc
        cases hsd : sndB i (mx i s)
        · have HNV := hid (show NV i s = false from by
            cases e : NV i s
            · rfl
            · have := HC.out.2 (HNC.out.1 e)
              rw [hsd] at this; cases this)
          clear hb hsd HL
          go_wp2_with (first | refine bu_net rfl rfl ?_ | refine st_net rfl _ _ rfl rfl rfl HR5 ?_)
          refine bodyPost_ret (res_net2 rfl _ _ _ _ _ rfl rfl (NB.row HR5 _ _)) rfl ?_
          exact .no HNV.out (below_setRow HN5.out.bel (by omega) _)
        · have HNV := hid (HNC.out.2 (HC.out.1 hsd))
          clear hb hsd HL
          go_wp2_with (first | refine ld_net rfl _ rfl rfl HL5 ?_ | refine st_net rfl _ _ rfl rfl rfl HR5 ?_)
          refine bodyPost_ret (res_net2 rfl _ _ _ _ _ rfl rfl (NB.row HR5 _ _)) rfl ?_
          exact .yes HNV.out (below_setRow HN5.out.bel (by omega) _)
  · exact networkOf_len n h1 h6 s hsz w
end
end Go.Proofs.YtmdgkhebefnfeaaDoor.C
