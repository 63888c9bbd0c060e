/- The model: one pass over all pairs, with its notes; whether a network is closed: the exact law. -/
import Derived.Test.YtholffjadnaloaaDoorCloS
import Derived.Test.YtholffjadnaloaaDoorNetZ
import Derived.Test.YtholffjadnaloaaDoorRelF
import Derived.Laws.Concat
import Derived.Deep.DeepCutAuto
namespace Go.Proofs.YtholffjadnaloaaDoor.C
section
open Go.RowKit
set_option linter.unusedVariables false
set_option linter.unusedSimpArgs false
/-- a digit's text -/
def decB (n : Nat) : ByteArray := ⟨#[UInt8.ofNat (48 + n)]⟩
theorem dec_nat {n : Nat} (h : n < 10) : (UInt8.ofNat (48 + n)).toNat = 48 + n := by
  have : n = 0 ∨ n = 1 ∨ n = 2 ∨ n = 3 ∨ n = 4 ∨ n = 5 ∨ n = 6 ∨ n = 7 ∨ n = 8 ∨ n = 9 := by omega
  rcases this with rfl | rfl | rfl | rfl | rfl | rfl | rfl | rfl | rfl | rfl <;> rfl
theorem dec_size (n : Nat) : (decB n).size = 1 := rfl
theorem conv1 (w : World) (T : TypeId) (x : UInt8) :
    (convert 38 9 (.slice (some ⟨w.heap.size, 0, none⟩) 1 1)).run Tryd.prog (w.alloc (.cells #[.int .u8 x.toNat] T)) = .ok (.string ⟨#[x]⟩) (w.alloc (.cells #[.int .u8 x.toNat] T)) := by
  rw [run_convert_bytes_string _ _ _ 5 _ _ _ Tryd.underlying38 Tryd.underlying5 Tryd.underlying9, run_bytesToString _ _ 1 1 [(x.toNat : Int)]]
  · simp
    rfl
  · have := run_loadCells_list (P := Tryd.prog) (w.alloc (.cells #[.int .u8 x.toNat] T)) ⟨w.heap.size, 0, none⟩ [.int .u8 x.toNat] (fun j v hj => by
      match j, hj with
      | 0, hj => simp at hj; subst hj; simp [Addr.add, go_sem])
    simpa using this
theorem conv_dec {n : Nat} (h : n < 10) (w : World) (T : TypeId) :
    (convert 38 9 (.slice (some ⟨w.heap.size, 0, none⟩) 1 1)).run Tryd.prog (w.alloc (.cells #[.int .u8 (48 + (n : Int))] T)) = .ok (.string (decB n)) (w.alloc (.cells #[.int .u8 (48 + (n : Int))] T)) := by
  have := conv1 w T (UInt8.ofNat (48 + n))
  rw [dec_nat h] at this
  push_cast at this
  exact this
set_option maxHeartbeats 1000000 in
theorem dec_any (n : Nat) (h : n < 10) (w : World) :
    Calls Tryd.prog 138 #[.int .i64 n] w fun e w' => e = .returned (.string (decB n)) ∧ Below w.heap.size w w' := by
  have hcv := fun w T => conv_dec h w T
  have h0 : decide ((n : Int) < -9223372036854775807) = false := decide_eq_false (by omega)
  have h1 : decide ((n : Int) < 0) = false := by simp
  have h9 : decide (9 < (n : Int)) = false := by simp; omega
  have hr : ∀ w : World, (Op.stringOp .add (decB n) ⟨#[]⟩).run Tryd.prog w = .ok (.string (decB n)) w := fun w => by
    rw [run_string_add_sum (P := Tryd.prog) (w := w) _ _ (by show 1 + 0 ≤ 9223372036854775807; omega)]
    rfl
  have hu : IntKind.u8.wrap (48 + (n : Int)) = 48 + (n : Int) := by rw [IntKind.wrap_u8]; omega
  have HS := AllLt.start w; go_enter Tryd.func138, Tryd.ntmps138
  go_wp2_with fail
  go_loop [0, 3] (fun a o => a = .int .i64 n ∧ o = .string ⟨#[]⟩) (fun _ _ => 0)
  case atStart => exact ⟨rfl, rfl⟩
  case round =>
    obtain ⟨rfl, rfl⟩ := hrel
    clear HS
    go_wp2_with fail
    go_ret
    exact ⟨rfl, by (repeat' (first | (with_reducible exact Below.refl _ _) | (with_reducible refine Below.setCell ?_ ?_ _) | (with_reducible refine below_drewN' ?_ _) | (with_reducible refine below_drew' ?_) | (with_reducible refine Below.alloc ?_ ?_ _) | (with_reducible assumption) | go_size))⟩
def spB : ByteArray := ⟨#[32]⟩
def byB : ByteArray := ⟨#[32, 98, 121, 32]⟩
/-- a change's text -/
def noteT (x : Nt) : ByteArray := decB x.1 ++ spB ++ fmS (x.2.1 : Nat) ++ spB ++ decB x.2.2.1 ++ byB ++ decB x.2.2.2
def strL (nt : List Nt) : List Value := nt.map fun x => Value.string (noteT x)
theorem strL_snoc (nt : List Nt) (x : Nt) : strL (nt ++ [x]) = strL nt ++ [.string (noteT x)] := by simp [strL]
theorem fm_size {r : Nat} (h : r < 8192) : (fmS (r : Nat)).size ≤ 13 := by
  rw [fmS_on h]
  show (ltsN r).toArray.size ≤ 13
  rw [List.size_toArray]
  unfold ltsN
  split
  · decide
  · exact ltsF_len r 13
theorem strInfo : (Tryd.prog.info? 9).map (fun i => (i.zero, i.size, i.bytes)) = some (some (.string ⟨#[]⟩), 1, 16) := by kernel_rfl
theorem own_diff {w : World} {b1 b2 T1 T2 s1 s2 g m c k : Nat} {v : Value} {xs ys : List Value} (h1 : w.ownsRow b1 T1 s1 (.slice (some ⟨g, 0, none⟩) m c) m xs) (h2 : w.ownsRow b2 T2 s2 v k ys) (hT : T1 ≠ T2) : some g ≠ v.ownBlock := by
  rcases h1.2 with ⟨hv, _⟩ | ⟨g1, c1, cur1, hv, _, hg1, _⟩
  · cases hv
  · cases hv
    rcases h2.2 with ⟨rfl, _⟩ | ⟨g2, c2, cur2, rfl, _, hg2, _⟩
    · intro h; cases h
    · intro h
      have e : g = g2 := by simpa [Value.ownBlock] using h
      subst e
      rw [hg1] at hg2
      cases hg2
      exact hT rfl
theorem own_base {w : World} {b b' T sz n : Nat} {v : Value} {xs : List Value} (h : w.ownsRow b T sz v n xs) (hb : b' ≤ b) : w.ownsRow b' T sz v n xs := by
  refine ⟨h.1, h.2.imp id ?_⟩
  rintro ⟨g, cap, cur, hv, hB, r⟩
  exact ⟨g, cap, cur, hv, by omega, r⟩
/-- What the pass knows of the world. -/
structure PS (w wr : World) (n nn : Nat) (s : ClS) (v : Value) : Prop where
  tk : ∃ g cap b, Tk wr w.heap.size n (.slice (some ⟨g, 0, none⟩) nn cap) ∧ g ≠ w.heap.size ∧ g ≠ w.heap.size + 1 ∧ wr.ownsRow b 3 1 (.slice (some ⟨g, 0, none⟩) nn cap) nn (rowL (fl n s.1) nn)
  nts : wr.ownsRow (w.heap.size + 1 + 1) 9 1 v s.2.length (strL s.2)
  res : Tk wr (w.heap.size + 1) 0 (.slice none 0 0)
  bel : Below w.heap.size w wr
  siz : w.heap.size + 1 + 1 + 1 ≤ wr.heap.size
theorem PS.below {w wr wr' : World} {n nn : Nat} {s : ClS} {v : Value} (h : PS w wr n nn s v) (hb : Below wr.heap.size wr wr') : PS w wr' n nn s v where
  tk := by
    obtain ⟨g, cap, b, h1, h2, h3, h4⟩ := h.tk
    exact ⟨g, cap, b, h1.below hb h1.lt, h2, h3, own_below' h4 hb⟩
  nts := own_below' h.nts hb
  res := h.res.below hb h.res.lt
  bel := h.bel.trans (hb.mono h.bel.size)
  siz := Nat.le_trans h.siz hb.size
set_option maxHeartbeats 4000000 in
set_option maxRecDepth 100000 in
theorem l6Pass_nn (o n nn : Nat) (hnn : nn = n * n) (R : Nat → Nat → Nat) (hR : OkR n R) (g cap b0 : Nat) (w : World) (hC : TC w o) (ho : o < w.heap.size) (hO : w.ownsRow b0 3 1 (.slice (some ⟨g, 0, none⟩) nn cap) nn (rowL (fl n R) nn)) :
    Calls Tryd.prog 98 #[.slice (some ⟨o, 0, none⟩) 169 169, .agg #[.int .i64 n, .slice (some ⟨g, 0, none⟩) nn cap]] w fun e w' => (∃ g' cap' b v, e = .returned (.tuple #[.agg #[.int .i64 n, .slice (some ⟨g', 0, none⟩) nn cap'], v]) ∧ w'.ownsRow b 3 1 (.slice (some ⟨g', 0, none⟩) nn cap') nn (rowL (fl n (passL n (R, []) (edL n)).1) nn) ∧ w'.ownsRow w.heap.size 9 1 v (passL n (R, []) (edL n)).2.length (strL (passL n (R, []) (edL n)).2)) ∧ Below w.heap.size w w' := by
  obtain ⟨i0, hi0, hz0, hz1, hz2⟩ := info_parts strInfo
  have h6 := hR.le
  have hgl := (hO.lt g rfl).2
  have HOK := hid hR
  have h36 : nn ≤ 36 := by rw [hnn]; exact Nat.mul_le_mul h6 h6
  have HNN := hid hnn
  have HP0 := hid (show PS w (((w.alloc (.cells #[.int .i64 (n : Int), .slice (some ⟨g, 0, none⟩) nn cap] 61)).alloc (.cells #[.int .i64 0, .slice none 0 0] 61)).alloc (.cells #[] 9)) n nn (R, []) (.slice (some ⟨w.heap.size + 1 + 1, 0, none⟩) 0 0) from by
    refine ⟨⟨g, cap, b0, ((Tk.made w n (.slice (some ⟨g, 0, none⟩) nn cap)).alloc _).alloc _, by omega, by omega, ((hO.alloc _).alloc _).alloc _⟩, ?_, ?_, (((Below.refl _ _).alloc (Nat.le_refl _) _).alloc (by simp) _).alloc (by simp; omega) _, by rw [World.size_alloc, World.size_alloc, World.size_alloc]; omega⟩
    · have h := World.ownsRow_made (base := w.heap.size + 1 + 1) (e := 9) (size := 1) ((w.alloc (.cells #[.int .i64 (n : Int), .slice (some ⟨g, 0, none⟩) nn cap] 61)).alloc (.cells #[.int .i64 0, .slice none 0 0] 61)) #[] 0 (by rw [World.size_alloc, World.size_alloc]; omega) (by decide) rfl
      rw [World.size_alloc, World.size_alloc] at h
      exact h
    · have h := Tk.made (w.alloc (.cells #[.int .i64 (n : Int), .slice (some ⟨g, 0, none⟩) nn cap] 61)) 0 (.slice none 0 0)
      rw [World.size_alloc] at h
      exact h.alloc _)
  have HMU := hid (mu_bd hR)
  have HC := hid hC
  clear hC hO hR hnn
  have HS := AllLt.start w; go_enter Tryd.func98, Tryd.ntmps98
  go_wp2_with fail
  go_loopw [6, 7] (fun v a wr => ∃ i : Nat, i ≤ n ∧ a = .int .i64 i ∧ Hid (PS w wr n nn (passL n (R, []) (edF n i)) v)) (fun _ a _ => n - (intOf a).toNat)
  case atStart => exact ⟨0, by omega, rfl, HP0⟩
  case round =>
    obtain ⟨i, hi, rfl, HP⟩ := hrel
    clear HS HP0
    have t0 := (HP.out.tk).choose_spec.choose_spec.choose_spec.1.c0
    by_cases hin : i < n
    · have hdi : decide ((i : Int) < (n : Int)) = true := by simp; omega
      go_wp2_with fail
      clear t0
      go_loopw [6, 8] (fun v a wr => ∃ k : Nat, i + 1 ≤ k ∧ k ≤ n ∧ a = .int .i64 k ∧ Hid (PS w wr n nn (passL n (R, []) (edF n i ++ edI i (k - i - 1))) v)) (fun _ a _ => n - (intOf a).toNat)
      case atStart => exact ⟨i + 1, by omega, by omega, by go_num, by rw [show i + 1 - i - 1 = 0 by omega]; simpa [edI] using HP⟩
      case round =>
        obtain ⟨k, hk1, hkn', rfl, HP2⟩ := hrel
        (try clear HP)
        have t0 := (HP2.out.tk).choose_spec.choose_spec.choose_spec.1.c0
        by_cases hkn : k < n
        · have hdk : decide ((k : Int) < (n : Int)) = true := by simp; omega
          go_wp2_with fail
          clear t0
          have HOKs := hid (passL_ok (s := (R, [])) HOK.out (l := edF n i ++ edI i (k - i - 1)) (fun p hp => by
            rcases List.mem_append.1 hp with hp | hp
            · have := (edF_mem (show i ≤ n by omega)).1 hp; omega
            · have := edI_mem.1 hp; omega))
          have HMUs := hid (passL_mu (n := n) (l := edF n i ++ edI i (k - i - 1)) (R, []) (fun p hp => by
            rcases List.mem_append.1 hp with hp | hp
            · have := (edF_mem (show i ≤ n by omega)).1 hp; omega
            · have := edI_mem.1 hp; omega))
          have HNX := hid (show narF (passL n (R, []) (edF n i ++ edI i (k - i - 1))) i k n = passL n (R, []) (edF n i ++ edI i (k + 1 - i - 1)) by
            rw [show k + 1 - i - 1 = (k - i - 1) + 1 by omega, edI_succ, show i + 1 + (k - i - 1) = k by omega, ← List.append_assoc, passL_snoc])
          generalize passL n (R, []) (edF n i ++ edI i (k - i - 1)) = s0 at *
          go_loopw [6, 9] (fun v a wr => ∃ b : Nat, b ≤ n ∧ a = .int .i64 b ∧ Hid (PS w wr n nn (narF s0 i k b) v)) (fun _ a _ => n - (intOf a).toNat)
          case atStart => exact ⟨0, by omega, rfl, HP2⟩
          case round =>
            obtain ⟨b, hb, rfl, HP3⟩ := hrel
            (try clear HP2)
            obtain ⟨wi, rfl⟩ : ∃ wi : World, wi = wr := ⟨_, rfl⟩
            by_cases hbn : b < n
            · have hdb : decide ((b : Int) < (n : Int)) = true := by simp; omega
              have HOKb := hid (narF_ok HOKs.out (show i < n by omega) hkn (show i ≠ k by omega) b)
              have HMUb := hid (narF_mu (n := n) s0 (show i < k by omega) hkn b)
              have HSX : Hid (narF s0 i k (b + 1) = stp (narF s0 i k b) i k b) := hid rfl
              generalize hs2 : narF s0 i k (b + 1) = s2 at *
              have HS2 := hid hs2
              clear hs2
              generalize narF s0 i k b = s at *
              have HLT := hid HOKb.out.lt
              have hl5 : s.2.length ≤ 122865 := by have := HMUb.out; have := HMUs.out; have := HMU.out; simp only [List.length_nil] at *; omega
              obtain ⟨gt, capt, bt, HT, hg1, hg2, HO⟩ := HP3.out.tk
              have t0 := HT.c0
              have t1 := HT.c1
              have HCw := hid (show TC wi o from fun x hx => (HP3.out.bel.cell (p := ⟨o, x, none⟩) ho).trans (HC.out x hx))
              have hol : o < wi.heap.size := Nat.lt_of_lt_of_le ho HP3.out.bel.size
              have HO2 : wi.ownsRow bt 3 1 (.slice (some ⟨gt, 0, none⟩) (n * n) capt) (n * n) (rowL (fl n s.1) (n * n)) := by rw [← HNN.out]; exact HO
              have HTR := hid (l6Tri_any o n h6 s.1 HLT.out i k b hin hkn hbn (.slice (some ⟨gt, 0, none⟩) (n * n) capt) wi HCw.out hol (ts_fl HO2))
              rw [← HNN.out] at HTR
              clear HO2
              have HTT := hid HT
              have HOO := hid HO
              clear HT HO
              go_wp2_with fail
              (with_reducible refine HTR.out.mono ?_)
              rintro e w1 ⟨rfl, hb1⟩
              have HT1 := hid (HTT.out.below hb1 HTT.out.lt)
              have HO1 := hid (own_below' HOO.out hb1)
              have HP1 := hid (HP3.out.below hb1)
              clear hb1 t0 t1
              obtain ⟨gg, cc, hv, _, _, c1, _⟩ := row_at HO1.out (show i * n + k < nn by rw [HNN.out]; exact at_lt hin hkn)
              cases hv
              rw [fl_at n s.1 hkn] at c1
              have t0 := HT1.out.c0
              have t1 := HT1.out.c1
              have hxlt : i * n + k < nn := by rw [HNN.out]; exact at_lt hin hkn
              obtain ⟨x, hx⟩ : ∃ x : Nat, x = i * n := ⟨_, rfl⟩
              have hmx : (i : Int) * (n : Int) = (x : Int) := by rw [hx]; push_cast; rfl
              rw [← hx] at c1 hxlt
              have HX := hid hx
              clear hx
              have p1 : (0 : Int) ≤ (x : Int) + (k : Int) := by omega
              have hq1 : (x : Int) + (k : Int) < (nn : Int) := by omega
              by_cases e : triN s.1 i k b = s.1 i k
              · have hq : (((triN s.1 i k b : Nat) : Int) != ((s.1 i k : Nat) : Int)) = false := by rw [e]; simp
                have HEQ := hid (show s2 = s by rw [HSX.out, stp_same e])
                clear e
                go_wp2_with fail
                refine ⟨?_, ?measure⟩
                · exact ⟨b + 1, by omega, by go_num, by rw [HS2.out, HEQ.out]; exact HP1⟩
                case measure => simp [intOf]; omega
              · have hq : (((triN s.1 i k b : Nat) : Int) != ((s.1 i k : Nat) : Int)) = true := by rw [bne_iff_ne]; omega
                have HEQ := hid (show s2 = (putR s.1 i k (triN s.1 i k b), s.2 ++ [(i, triN s.1 i k b, k, b)]) by rw [HSX.out, stp_less e])
                have hr8 := triN_lt HLT.out i k b
                clear e
                generalize triN s.1 i k b = r at *
                have HO2 : w1.ownsRow bt 3 1 (.slice (some ⟨gt, 0, none⟩) (n * n) capt) (n * n) (rowL (fl n s.1) (n * n)) := by rw [← HNN.out]; exact HO1.out
                have HLP := hid (l5Put_any n h6 (fl n s.1) i k r hin hkn hr8 bt (.slice (some ⟨gt, 0, none⟩) (n * n) capt) w1 HO2)
                rw [← HNN.out] at HLP
                clear HO2
                have hpos : 0 < nn := by omega
                have HPR := hid (show ∀ x, x < nn → updL (updL (fl n s.1) (i * n + k) r) (k * n + i) (turN r) x = fl n (putR s.1 i k r) x from fun x hx => put_row hin hkn (show i ≠ k by omega) (show x < n * n by rw [← HNN.out]; exact hx))
                obtain ⟨S1, hS1⟩ : ∃ S, S = decB i ++ spB := ⟨_, rfl⟩
                obtain ⟨S2, hS2⟩ : ∃ S, S = S1 ++ fmS ((r : Nat) : Int) := ⟨_, rfl⟩
                obtain ⟨S3, hS3⟩ : ∃ S, S = S2 ++ spB := ⟨_, rfl⟩
                obtain ⟨S4, hS4⟩ : ∃ S, S = S3 ++ decB k := ⟨_, rfl⟩
                obtain ⟨S5, hS5⟩ : ∃ S, S = S4 ++ byB := ⟨_, rfl⟩
                obtain ⟨S6, hS6⟩ : ∃ S, S = S5 ++ decB b := ⟨_, rfl⟩
                have hf13 := fm_size hr8
                have z1 : S1.size = 2 := by rw [hS1, ByteArray.size_append]; rfl
                have z2 : S2.size ≤ 15 := by rw [hS2, ByteArray.size_append]; omega
                have z3 : S3.size ≤ 16 := by rw [hS3, ByteArray.size_append]; show S2.size + 1 ≤ 16; omega
                have z4 : S4.size ≤ 17 := by rw [hS4, ByteArray.size_append]; show S3.size + 1 ≤ 17; omega
                have z5 : S5.size ≤ 21 := by rw [hS5, ByteArray.size_append]; show S4.size + 4 ≤ 21; omega
                have r1 : ∀ w : World, (Op.stringOp .add (decB i) ⟨#[32]⟩).run Tryd.prog w = .ok (.string S1) w := fun w => by rw [run_string_add_sum (P := Tryd.prog) (w := w) _ _ (by show 1 + 1 ≤ _; omega), hS1]; rfl
                have r2 : ∀ w : World, (Op.stringOp .add S1 (fmS ((r : Nat) : Int))).run Tryd.prog w = .ok (.string S2) w := fun w => by rw [run_string_add_sum (P := Tryd.prog) (w := w) _ _ (by omega), hS2]
                have r3 : ∀ w : World, (Op.stringOp .add S2 ⟨#[32]⟩).run Tryd.prog w = .ok (.string S3) w := fun w => by rw [run_string_add_sum (P := Tryd.prog) (w := w) _ _ (by show S2.size + 1 ≤ _; omega), hS3]; rfl
                have r4 : ∀ w : World, (Op.stringOp .add S3 (decB k)).run Tryd.prog w = .ok (.string S4) w := fun w => by rw [run_string_add_sum (P := Tryd.prog) (w := w) _ _ (by show S3.size + 1 ≤ _; omega), hS4]
                have r5 : ∀ w : World, (Op.stringOp .add S4 ⟨#[32, 98, 121, 32]⟩).run Tryd.prog w = .ok (.string S5) w := fun w => by rw [run_string_add_sum (P := Tryd.prog) (w := w) _ _ (by show S4.size + 4 ≤ _; omega), hS5]; rfl
                have r6 : ∀ w : World, (Op.stringOp .add S5 (decB b)).run Tryd.prog w = .ok (.string S6) w := fun w => by rw [run_string_add_sum (P := Tryd.prog) (w := w) _ _ (by show S5.size + 1 ≤ _; omega), hS6]
                have HS6 := hid (show noteT (i, r, k, b) = S6 by rw [hS6, hS5, hS4, hS3, hS2, hS1]; rfl)
                have d4 := HP1.out.siz
                clear hS1 hS2 hS3 hS4 hS5 hS6 hf13 z1 z2 z3 z4 z5
                go_wp2_with fail
                (with_reducible refine HLP.out.mono ?_)
                rintro e w2 ⟨⟨u', rfl, hown⟩, hb2⟩
                obtain ⟨g2, cap2, rfl, hgb2, hgl2⟩ := hown.form hpos
                have HOW := hid (own_ext hown HPR.out)
                have HT2 := HT1.out.below hb2 HT1.out.lt
                have HP2 := hid (HP1.out.below hb2)
                have a0 := HT2.c0
                have a1 := HT2.c1
                have af0 := HT2.fr 0
                have af1 := HT2.fr 1
                have HP3' := hid (show PS w ((w2.setCell ⟨w.heap.size, 0, none⟩ (.int .i64 (n : Int))).setCell ⟨w.heap.size, 1, none⟩ (.slice (some ⟨g2, 0, none⟩) nn cap2)) n nn (putR s.1 i k r, s.2) u6 from by
                  refine ⟨?_, own_set (own_set HP2.out.nts (p := ⟨w.heap.size, 0, none⟩) (show w.heap.size < w.heap.size + 1 + 1 by omega) _) (p := ⟨w.heap.size, 1, none⟩) (show w.heap.size < w.heap.size + 1 + 1 by omega) _, (HP2.out.res.far (p := ⟨w.heap.size, 0, none⟩) (show w.heap.size + 1 ≠ w.heap.size by omega) _).far (p := ⟨w.heap.size, 1, none⟩) (show w.heap.size + 1 ≠ w.heap.size by omega) _, (HP2.out.bel.setCell (p := ⟨w.heap.size, 0, none⟩) (Nat.le_refl _) _).setCell (p := ⟨w.heap.size, 1, none⟩) (Nat.le_refl _) _, by have := HP2.out.siz; simpa using this⟩
                  exact ⟨g2, cap2, _, HT2.set0.set1 _, by omega, by omega, own_set (own_set HOW.out (p := ⟨w.heap.size, 0, none⟩) (show w.heap.size < w1.heap.size + 1 + 1 by omega) _) (p := ⟨w.heap.size, 1, none⟩) (show w.heap.size < w1.heap.size + 1 + 1 by omega) _⟩)
                clear hown hb2 HT2 t0 t1 c1
                go_upto_region 14 with fail
                generalize (w2.setCell ⟨w.heap.size, 0, none⟩ (.int .i64 (n : Int))).setCell ⟨w.heap.size, 1, none⟩ (.slice (some ⟨g2, 0, none⟩) nn cap2) = w3 at *
                clear a0 a1 af0 af1
                go_wp2_with fail
                (with_reducible refine (dec_any i (by omega) _).mono ?_)
                rintro e w4 ⟨rfl, hb⟩
                have HP4 := hid (HP3'.out.below hb)
                clear hb
                go_wp2_with fail
                (with_reducible refine (sFormatRel_any _ _).mono ?_)
                rintro e w4' ⟨rfl, rfl⟩
                go_wp2_with fail
                (with_reducible refine (dec_any k (by omega) _).mono ?_)
                rintro e w5 ⟨rfl, hb⟩
                have HP5 := hid (HP4.out.below hb)
                clear hb
                go_wp2_with fail
                (with_reducible refine (dec_any b (by omega) _).mono ?_)
                rintro e w6 ⟨rfl, hb⟩
                have HP6 := hid (HP5.out.below hb)
                have d6 := HP6.out.siz
                clear hb
                go_wp2_with (at_builtin; refine wpList_append_own _ rfl _ _ 117 rfl (w.heap.size + 1 + 1) 9 i0 _ 1 16 Tryd.underlying117 hi0 hz0 hz1 hz2 rfl (by decide) _ _ _ rfl (HP6.out.nts.alloc _) ⟨w6.heap.size, 0, none⟩ 1 1 [.string S6] rfl rfl ?c1 ?c2 ?c3 ?c4 ?c5 ?_)
                case c1 =>
                  intro j x hj
                  match j, hj with
                  | 0, hj => simp at hj; subst hj; simp [Addr.add, go_sem]
                case c2 => intro x hx; simp at hx; subst hx; rfl
                case c3 => unfold maxLen; omega
                case c4 => omega
                case c5 => simp; omega
                intro v' w7 hown' hgrow _
                have HP7 := hid (show PS w w7 n nn s2 v' from by
                  obtain ⟨gx, cx, bx, h1, h2, h3, h4⟩ := HP6.out.tk
                  have hnl := HP6.out.nts.lt
                  refine ⟨⟨gx, cx, bx, ?_, h2, h3, ?_⟩, ?_, ?_, ?_, ?_⟩
                  · exact (hgrow.block _ (by have := h1.lt; simp; omega) (fun e => by have := (hnl _ e.symm).1; omega)).trans (h1.alloc _)
                  · rw [HEQ.out]
                    exact (h4.alloc _).kept hgrow (.inr (own_diff h4 HP6.out.nts (by decide)))
                  · rw [HEQ.out]
                    show w7.ownsRow _ _ 1 v' (s.2 ++ [(i, r, k, b)]).length (strL (s.2 ++ [(i, r, k, b)]))
                    rw [strL_snoc, List.length_append, HS6.out]
                    exact hown'
                  · exact (hgrow.block _ (by have := HP6.out.res.lt; simp; omega) (fun e => by have := (hnl _ e.symm).1; omega)).trans (HP6.out.res.alloc _)
                  · exact (HP6.out.bel.alloc HP6.out.bel.size _).grown hgrow (by have := HP6.out.bel.size; simp; omega) (fun j hj => by have := (hnl j hj).1; omega)
                  · have := hgrow.size; simp at this; omega)
                clear hown' hgrow
                go_wp2_with fail
                refine ⟨?_, ?measure⟩
                · exact ⟨b + 1, by omega, by go_num, by rw [HS2.out]; exact HP7⟩
                case measure => simp [intOf]; omega
            · obtain rfl : b = n := by omega
              have hdb : decide ((b : Int) < (b : Int)) = false := by simp
              have t0 := (HP3.out.tk).choose_spec.choose_spec.choose_spec.1.c0
              go_wp2_with fail
              refine ⟨?_, ?measure⟩
              · exact ⟨k + 1, by omega, by omega, by go_num, by rw [← HNX.out]; exact HP3⟩
              case measure => simp [intOf]; omega
        · obtain rfl : k = n := by omega
          have hdk : decide ((k : Int) < (k : Int)) = false := by simp
          have HQ := hid (show edF k i ++ edI i (k - i - 1) = edF k (i + 1) by
            show _ = edF k i ++ edI i (k - 1 - i)
            rw [show k - 1 - i = k - i - 1 by omega])
          go_wp2_with fail
          refine ⟨?_, ?measure⟩
          · exact ⟨i + 1, by omega, by go_num, by rw [← HQ.out]; exact HP2⟩
          case measure => simp [intOf]; omega
    · obtain rfl : i = n := by omega
      have hdi : decide ((i : Int) < (i : Int)) = false := by simp
      have HL := hid (show passL i (R, []) (edF i i) = passL i (R, []) (edL i) from rfl)
      generalize passL i (R, []) (edF i i) = s at *
      obtain ⟨gt, capt, bt, HT, hg1, hg2, HO⟩ := HP.out.tk
      have t0 := HT.c0
      have t1 := HT.c1
      have r0 := HP.out.res.c0
      have r1 := HP.out.res.c1
      have rf0 := HP.out.res.fr 0
      have rf1 := HP.out.res.fr 1
      obtain ⟨av, mv, cv, rfl⟩ : ∃ ao n' cap, u6 = .slice ao n' cap := by
        rcases HP.out.nts.2 with ⟨hv, _⟩ | ⟨g, cap, cur, hv, _⟩
        · exact ⟨_, _, _, hv⟩
        · exact ⟨_, _, _, hv⟩
      have HX1 := hid (own_far (own_far HO (p := ⟨w.heap.size + 1, 0, none⟩) hg2 (.int .i64 (i : Int))) (p := ⟨w.heap.size + 1, 1, none⟩) hg2 (.slice (some ⟨gt, 0, none⟩) nn capt))
      have HX2 := hid (own_base (own_set (own_set HP.out.nts (p := ⟨w.heap.size + 1, 0, none⟩) (show w.heap.size + 1 < w.heap.size + 1 + 1 by omega) (.int .i64 (i : Int))) (p := ⟨w.heap.size + 1, 1, none⟩) (show w.heap.size + 1 < w.heap.size + 1 + 1 by omega) (.slice (some ⟨gt, 0, none⟩) nn capt)) (show w.heap.size ≤ w.heap.size + 1 + 1 by omega))
      have HBE := hid ((HP.out.bel.setCell (p := ⟨w.heap.size + 1, 0, none⟩) (show w.heap.size ≤ w.heap.size + 1 by omega) (.int .i64 (i : Int))).setCell (p := ⟨w.heap.size + 1, 1, none⟩) (show w.heap.size ≤ w.heap.size + 1 by omega) (.slice (some ⟨gt, 0, none⟩) nn capt))
      clear HT HO
      go_wp2_with fail
      refine bodyPost_ret (by simp [results, Tryd.results98, go_sem, *]; try rfl) rfl ?_
      exact ⟨⟨gt, capt, bt, _, rfl, by rw [← HL.out]; exact HX1.out, by rw [← HL.out]; exact HX2.out⟩, HBE.out⟩
theorem l6Pass_any (o n : Nat) (R : Nat → Nat → Nat) (hR : OkR n R) (g cap b0 : Nat) (w : World) (hC : TC w o) (ho : o < w.heap.size) (hO : w.ownsRow b0 3 1 (.slice (some ⟨g, 0, none⟩) (n * n) cap) (n * n) (rowL (fl n R) (n * n))) :
    Calls Tryd.prog 98 #[.slice (some ⟨o, 0, none⟩) 169 169, .agg #[.int .i64 n, .slice (some ⟨g, 0, none⟩) (n * n) cap]] w fun e w' => (∃ g' cap' b v, e = .returned (.tuple #[.agg #[.int .i64 n, .slice (some ⟨g', 0, none⟩) (n * n) cap'], v]) ∧ w'.ownsRow b 3 1 (.slice (some ⟨g', 0, none⟩) (n * n) cap') (n * n) (rowL (fl n (passL n (R, []) (edL n)).1) (n * n)) ∧ w'.ownsRow w.heap.size 9 1 v (passL n (R, []) (edL n)).2.length (strL (passL n (R, []) (edL n)).2)) ∧ Below w.heap.size w w' :=
  l6Pass_nn o n (n * n) rfl R hR g cap b0 w hC ho hO
end
section
open Go.RowKit
set_option linter.unusedVariables false
set_option linter.unusedSimpArgs false
theorem pass_cls {n : Nat} {R : Nat → Nat → Nat} : ((((passL n (R, []) (edL n)).2.length : Nat) : Int) == 0) = clsB n R := by
  rw [Bool.eq_iff_iff, clsB_iff, beq_iff_eq]
  constructor
  · intro h
    exact (passL_quiet (s := (R, [])) (show (passL n (R, []) (edL n)).2.length = 0 by omega)).2
  · intro h
    rw [passL_stb (s := (R, [])) h]; rfl
theorem own_slice {w : World} {b T sz n : Nat} {v : Value} {xs : List Value} (h : w.ownsRow b T sz v n xs) : ∃ a c, v = .slice a n c := by
  rcases h.2 with ⟨hv, h0⟩ | ⟨g, cap, cur, hv, _⟩
  · exact ⟨_, _, by rw [hv, h0]⟩
  · exact ⟨_, _, hv⟩
set_option maxHeartbeats 4000000 in
set_option maxRecDepth 100000 in
theorem sIsClosed_any (z : Int) (s : ByteArray) (w : World) :
    Calls Tryd.prog 49 #[.agg #[.int .i64 z, .string s]] w fun e w' => e = .returned (.bool (clsI z s)) ∧ Below w.heap.size w w' := by
  rcases nv_cases z s with h | ⟨n, R, hR, rfl, rfl⟩
  · have HNV := hid h
    have HR := hid (clsI_no h)
    clear h
    have HS := AllLt.start w; have hn2 := lt2; have hn3 := lt3; have hn4 := lt4; go_enter Tryd.func49, Tryd.ntmps49
    go_wp2_with (first | (go_at_call 95; (with_reducible refine (sNetValid_any z s _).mono ?_); rintro e w' ⟨rfl, hb⟩; obtain ⟨HB, hz0, hz, hc, hf⟩ := bst (w0 := w) (by go_grown) hb; clear hb; (try simp at hz); (first | ((refine HS.g5 (m := w'.heap.size) ?_ ?_); (focus omega); intro HS) | ((refine HS.g4 (m := w'.heap.size) ?_ ?_); (focus omega); intro HS) | ((refine HS.g3 (m := w'.heap.size) ?_ ?_); (focus omega); intro HS) | ((refine HS.g2 (m := w'.heap.size) ?_ ?_); (focus omega); intro HS) | ((refine HS.g1 (m := w'.heap.size) ?_ ?_); (focus omega); intro HS) | ((refine HS.g0 (m := w'.heap.size) ?_ ?_); (focus omega); intro HS)); have HU := HS; simp only [AllLt] at HU; rw [HNV.out]))
    go_ret
    exact ⟨ret_bool HR.out.symm, by (repeat' (first | (with_reducible exact Below.refl _ _) | (with_reducible refine Below.setCell ?_ ?_ _) | (with_reducible refine below_drewN' ?_ _) | (with_reducible refine below_drew' ?_) | (with_reducible refine Below.alloc ?_ ?_ _) | (with_reducible assumption) | go_size))⟩
  · have HNV := hid (nv_net hR)
    have HV := hid ((clsI_yes hR).trans pass_cls.symm)
    have HOP := hid (l5Open_any n hR.le R hR.lt)
    have HOK := hid hR
    have hpos : 0 < n * n := Nat.mul_pos hR.pos hR.pos
    clear hR
    generalize netS n R = s at *
    have HI0 := hid (SI.made w (n : Int) s 26)
    have HS := AllLt.start w; have hn2 := lt2; have hn3 := lt3; have hn4 := lt4; go_enter Tryd.func49, Tryd.ntmps49
    go_wp2_with fail
    (with_reducible refine (sNetValid_any n s _).mono ?_)
    rintro e w1 ⟨rfl, hb⟩
    rw [HNV.out]
    have HI1 := hid (HI0.out.below hb)
    have q0 := HI1.out.a0
    have q1 := HI1.out.a1
    have hl := HI1.out.lt
    clear hb HI0 HS
    have HS := AllLt.start w1
    go_wp2_with fail
    go_region_held3 (fun wx => wx.cell? ⟨w.heap.size, 0, none⟩ = some (.int .i64 (n : Int)) ∧ wx.cell? ⟨w.heap.size, 1, none⟩ = some (.string s)) (first | exact ⟨q0, q1⟩ | exact ⟨(Below.cell (B := w1.heap.size) (w := w1) (p := ⟨w.heap.size, 0, none⟩) (by go_grown) hl).trans q0, (Below.cell (B := w1.heap.size) (w := w1) (p := ⟨w.heap.size, 1, none⟩) (by go_grown) hl).trans q1⟩)
      (first
        | (go_at_call 70; (with_reducible refine (l3Table_any _).mono ?_); rintro e w' ⟨⟨o, rfl, ho, htab⟩, hb⟩; have HOW := hid (own_below' HOW.out hb); have HTB := hid htab; clear htab ho; obtain ⟨HB, hz0, hz, hc, hf⟩ := bst (w0 := w1) (by go_grown) hb; clear hb; (try simp at hz); (first | ((refine HS.g5 (m := w'.heap.size) ?_ ?_); (focus omega); intro HS) | ((refine HS.g4 (m := w'.heap.size) ?_ ?_); (focus omega); intro HS) | ((refine HS.g3 (m := w'.heap.size) ?_ ?_); (focus omega); intro HS) | ((refine HS.g2 (m := w'.heap.size) ?_ ?_); (focus omega); intro HS) | ((refine HS.g1 (m := w'.heap.size) ?_ ?_); (focus omega); intro HS) | ((refine HS.g0 (m := w'.heap.size) ?_ ?_); (focus omega); intro HS)); have HU := HS; simp only [AllLt] at HU)
        | (go_at_call 70; (with_reducible refine (l3Table_any _).mono ?_); rintro e w' ⟨⟨o, rfl, ho, htab⟩, hb⟩; have HOW := hid (own_below' (HOW.out.alloc _) hb); have HTB := hid htab; clear htab ho; obtain ⟨HB, hz0, hz, hc, hf⟩ := bst (w0 := w1) (by go_grown) hb; clear hb; (try simp at hz); (first | ((refine HS.g5 (m := w'.heap.size) ?_ ?_); (focus omega); intro HS) | ((refine HS.g4 (m := w'.heap.size) ?_ ?_); (focus omega); intro HS) | ((refine HS.g3 (m := w'.heap.size) ?_ ?_); (focus omega); intro HS) | ((refine HS.g2 (m := w'.heap.size) ?_ ?_); (focus omega); intro HS) | ((refine HS.g1 (m := w'.heap.size) ?_ ?_); (focus omega); intro HS) | ((refine HS.g0 (m := w'.heap.size) ?_ ?_); (focus omega); intro HS)); have HU := HS; simp only [AllLt] at HU)
        | (go_at_call 70; (with_reducible refine (l3Table_any _).mono ?_); rintro e w' ⟨⟨o, rfl, ho, htab⟩, hb⟩; have HTB := hid htab; clear htab ho; obtain ⟨HB, hz0, hz, hc, hf⟩ := bst (w0 := w1) (by go_grown) hb; clear hb; (try simp at hz); (first | ((refine HS.g5 (m := w'.heap.size) ?_ ?_); (focus omega); intro HS) | ((refine HS.g4 (m := w'.heap.size) ?_ ?_); (focus omega); intro HS) | ((refine HS.g3 (m := w'.heap.size) ?_ ?_); (focus omega); intro HS) | ((refine HS.g2 (m := w'.heap.size) ?_ ?_); (focus omega); intro HS) | ((refine HS.g1 (m := w'.heap.size) ?_ ?_); (focus omega); intro HS) | ((refine HS.g0 (m := w'.heap.size) ?_ ?_); (focus omega); intro HS)); have HU := HS; simp only [AllLt] at HU)
        | (go_at_call 53; (with_reducible refine (HOP.out _).mono ?_); rintro e w' ⟨⟨u, he, hown⟩, hb⟩; obtain ⟨g, cap, rfl, hg1, hg2⟩ := hown.form hpos; subst he; have HTB := hid (HTB.out.below hb); have HOW := hid hown; clear hown hg1 hg2; obtain ⟨HB, hz0, hz, hc, hf⟩ := bst (w0 := w1) (by go_grown) hb; clear hb; (try simp at hz); (first | ((refine HS.g5 (m := w'.heap.size) ?_ ?_); (focus omega); intro HS) | ((refine HS.g4 (m := w'.heap.size) ?_ ?_); (focus omega); intro HS) | ((refine HS.g3 (m := w'.heap.size) ?_ ?_); (focus omega); intro HS) | ((refine HS.g2 (m := w'.heap.size) ?_ ?_); (focus omega); intro HS) | ((refine HS.g1 (m := w'.heap.size) ?_ ?_); (focus omega); intro HS) | ((refine HS.g0 (m := w'.heap.size) ?_ ?_); (focus omega); intro HS)); have HU := HS; simp only [AllLt] at HU)
        | (go_at_call 53; (with_reducible refine (HOP.out _).mono ?_); rintro e w' ⟨⟨u, he, hown⟩, hb⟩; obtain ⟨g, cap, rfl, hg1, hg2⟩ := hown.form hpos; subst he; have HTB := hid ((HTB.out.below ((Below.refl _ _).alloc (Nat.le_refl _) _)).below hb); have HOW := hid hown; clear hown hg1 hg2; obtain ⟨HB, hz0, hz, hc, hf⟩ := bst (w0 := w1) (by go_grown) hb; clear hb; (try simp at hz); (first | ((refine HS.g5 (m := w'.heap.size) ?_ ?_); (focus omega); intro HS) | ((refine HS.g4 (m := w'.heap.size) ?_ ?_); (focus omega); intro HS) | ((refine HS.g3 (m := w'.heap.size) ?_ ?_); (focus omega); intro HS) | ((refine HS.g2 (m := w'.heap.size) ?_ ?_); (focus omega); intro HS) | ((refine HS.g1 (m := w'.heap.size) ?_ ?_); (focus omega); intro HS) | ((refine HS.g0 (m := w'.heap.size) ?_ ?_); (focus omega); intro HS)); have HU := HS; simp only [AllLt] at HU)
        | (go_at_call 53; (with_reducible refine (HOP.out _).mono ?_); rintro e w' ⟨⟨u, he, hown⟩, hb⟩; obtain ⟨g, cap, rfl, hg1, hg2⟩ := hown.form hpos; subst he; have HOW := hid hown; clear hown hg1 hg2; obtain ⟨HB, hz0, hz, hc, hf⟩ := bst (w0 := w1) (by go_grown) hb; clear hb; (try simp at hz); (first | ((refine HS.g5 (m := w'.heap.size) ?_ ?_); (focus omega); intro HS) | ((refine HS.g4 (m := w'.heap.size) ?_ ?_); (focus omega); intro HS) | ((refine HS.g3 (m := w'.heap.size) ?_ ?_); (focus omega); intro HS) | ((refine HS.g2 (m := w'.heap.size) ?_ ?_); (focus omega); intro HS) | ((refine HS.g1 (m := w'.heap.size) ?_ ?_); (focus omega); intro HS) | ((refine HS.g0 (m := w'.heap.size) ?_ ?_); (focus omega); intro HS)); have HU := HS; simp only [AllLt] at HU)
        | (go_at_call 98; (with_reducible refine (l6Pass_any o n R HOK.out g cap _ _ (TC.of HTB.out) HTB.out.lt HOW.out).mono ?_); rintro e w' ⟨⟨g', cap', b', v, rfl, hown, hnt⟩, hb⟩; obtain ⟨av, cv, rfl⟩ := own_slice hnt; clear hown hnt; obtain ⟨HB, hz0, hz, hc, hf⟩ := bst (w0 := w1) (by go_grown) hb; clear hb; (try simp at hz); (first | ((refine HS.g5 (m := w'.heap.size) ?_ ?_); (focus omega); intro HS) | ((refine HS.g4 (m := w'.heap.size) ?_ ?_); (focus omega); intro HS) | ((refine HS.g3 (m := w'.heap.size) ?_ ?_); (focus omega); intro HS) | ((refine HS.g2 (m := w'.heap.size) ?_ ?_); (focus omega); intro HS) | ((refine HS.g1 (m := w'.heap.size) ?_ ?_); (focus omega); intro HS) | ((refine HS.g0 (m := w'.heap.size) ?_ ?_); (focus omega); intro HS)); have HU := HS; simp only [AllLt] at HU)
        | (go_at_call 98; (with_reducible refine (l6Pass_any o n R HOK.out g cap _ _ (TC.of (HTB.out.below ((Below.refl _ _).alloc (Nat.le_refl _) _))) (HTB.out.below ((Below.refl _ _).alloc (Nat.le_refl _) _)).lt (HOW.out.alloc _)).mono ?_); rintro e w' ⟨⟨g', cap', b', v, rfl, hown, hnt⟩, hb⟩; obtain ⟨av, cv, rfl⟩ := own_slice hnt; clear hown hnt; obtain ⟨HB, hz0, hz, hc, hf⟩ := bst (w0 := w1) (by go_grown) hb; clear hb; (try simp at hz); (first | ((refine HS.g5 (m := w'.heap.size) ?_ ?_); (focus omega); intro HS) | ((refine HS.g4 (m := w'.heap.size) ?_ ?_); (focus omega); intro HS) | ((refine HS.g3 (m := w'.heap.size) ?_ ?_); (focus omega); intro HS) | ((refine HS.g2 (m := w'.heap.size) ?_ ?_); (focus omega); intro HS) | ((refine HS.g1 (m := w'.heap.size) ?_ ?_); (focus omega); intro HS) | ((refine HS.g0 (m := w'.heap.size) ?_ ?_); (focus omega); intro HS)); have HU := HS; simp only [AllLt] at HU)
        | fail)
    all_goals
      go_wp2_with fail
      go_ret
      exact ⟨ret_bool HV.out.symm, HI1.out.bel.trans (Below.mono (show Below w1.heap.size w1 _ from by (repeat' (first | (with_reducible exact Below.refl _ _) | (with_reducible refine Below.setCell ?_ ?_ _) | (with_reducible refine below_drewN' ?_ _) | (with_reducible refine below_drew' ?_) | (with_reducible refine Below.alloc ?_ ?_ _) | (with_reducible assumption) | go_size))) HI1.out.bel.size)⟩
end
end Go.Proofs.YtholffjadnaloaaDoor.C
