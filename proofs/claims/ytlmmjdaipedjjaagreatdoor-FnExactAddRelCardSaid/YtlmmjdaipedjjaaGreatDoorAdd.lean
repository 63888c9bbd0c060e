/- The model: one pass over all pairs, with its notes. The model: whether a network is closed, and the closed network; the exact law of IsClosed. The program: the closed network, whether closing shows that there is no model. The model: closing a network. The model: the closed network, whether closing shows that there is no model; the exact laws. One more relation, and the network closed: the program, the model, the exact law. -/
import Derived.Test.YtlmmjdaipedjjaaGreatDoorCloS
import Derived.Test.YtlmmjdaipedjjaaGreatDoorNetZ
import Derived.Test.YtlmmjdaipedjjaaGreatDoorRelF
import Derived.Laws.Concat
import Derived.Test.YtlmmjdaipedjjaaGreatDoorCloF
import Derived.Test.YtlmmjdaipedjjaaGreatDoorCloX
import Derived.Test.YtlmmjdaipedjjaaGreatDoorNetR
import Derived.Deep.DeepCutAuto
import Derived.Test.YtlmmjdaipedjjaaGreatDoorNetZs
namespace Go.Proofs.YtlmmjdaipedjjaaGreatDoor.C
section
open Go.RowKit
set_option linter.unusedVariables false
set_option linter.unusedSimpArgs false
/-- a digit's text -/
def decB (n : Nat) : ByteArray := ⟨#[UInt8.ofNat (48 + n)]⟩
theorem dec_nat {n : Nat} (h : n < 10) : (UInt8.ofNat (48 + n)).toNat = 48 + n := by
  have : n = 0 ∨ n = 1 ∨ n = 2 ∨ n = 3 ∨ n = 4 ∨ n = 5 ∨ n = 6 ∨ n = 7 ∨ n = 8 ∨ n = 9 := by omega
  rcases this with rfl | rfl | rfl | rfl | rfl | rfl | rfl | rfl | rfl | rfl <;> rfl
theorem dec_size (n : Nat) : (decB n).size = 1 := rfl
theorem conv1 (w : World) (T : TypeId) (x : UInt8) :
    (convert 80 9 (.slice (some ⟨w.heap.size, 0, none⟩) 1 1)).run Tryz.prog (w.alloc (.cells #[.int .u8 x.toNat] T)) = .ok (.string ⟨#[x]⟩) (w.alloc (.cells #[.int .u8 x.toNat] T)) := by
  rw [run_convert_bytes_string _ _ _ 5 _ _ _ Tryz.underlying80 Tryz.underlying5 Tryz.underlying9, run_bytesToString _ _ 1 1 [(x.toNat : Int)]]
  · simp
    rfl
  · have := run_loadCells_list (P := Tryz.prog) (w.alloc (.cells #[.int .u8 x.toNat] T)) ⟨w.heap.size, 0, none⟩ [.int .u8 x.toNat] (fun j v hj => by
      match j, hj with
      | 0, hj => simp at hj; subst hj; simp [Addr.add, go_sem])
    simpa using this
theorem conv_dec {n : Nat} (h : n < 10) (w : World) (T : TypeId) :
    (convert 80 9 (.slice (some ⟨w.heap.size, 0, none⟩) 1 1)).run Tryz.prog (w.alloc (.cells #[.int .u8 (48 + (n : Int))] T)) = .ok (.string (decB n)) (w.alloc (.cells #[.int .u8 (48 + (n : Int))] T)) := by
  have := conv1 w T (UInt8.ofNat (48 + n))
  rw [dec_nat h] at this
  push_cast at this
  exact this
set_option maxHeartbeats 1000000 in
theorem dec_any (n : Nat) (h : n < 10) (w : World) :
    Calls Tryz.prog 47 #[.int .i64 n] w fun e w' => e = .returned (.string (decB n)) ∧ Below w.heap.size w w' := by
  have hcv := fun w T => conv_dec h w T
  have h0 : decide ((n : Int) < -9223372036854775807) = false := decide_eq_false (by omega)
  have h1 : decide ((n : Int) < 0) = false := by simp
  have h9 : decide (9 < (n : Int)) = false := by simp; omega
  have hr : ∀ w : World, (Op.stringOp .add (decB n) ⟨#[]⟩).run Tryz.prog w = .ok (.string (decB n)) w := fun w => by
    rw [run_string_add_sum (P := Tryz.prog) (w := w) _ _ (by show 1 + 0 ≤ 9223372036854775807; omega)]
    rfl
  have hu : IntKind.u8.wrap (48 + (n : Int)) = 48 + (n : Int) := by rw [IntKind.wrap_u8]; omega
  have HS := AllLt.start w; go_enter Tryz.func47, Tryz.ntmps47
  go_wp2_with fail
  go_loop [0, 3] (fun a o => a = .int .i64 n ∧ o = .string ⟨#[]⟩) (fun _ _ => 0)
  case atStart => exact ⟨rfl, rfl⟩
  case round =>
    obtain ⟨rfl, rfl⟩ := hrel
    clear HS
    go_wp2_with fail
    go_ret
    exact ⟨rfl, by (repeat' (first | (with_reducible exact Below.refl _ _) | (with_reducible refine Below.setCell ?_ ?_ _) | (with_reducible refine below_drewN' ?_ _) | (with_reducible refine below_drew' ?_) | (with_reducible refine Below.alloc ?_ ?_ _) | (with_reducible assumption) | go_size))⟩
def spB : ByteArray := ⟨#[32]⟩
def byB : ByteArray := ⟨#[32, 98, 121, 32]⟩
/-- a change's text -/
def noteT (x : Nt) : ByteArray := decB x.1 ++ spB ++ fmS (x.2.1 : Nat) ++ spB ++ decB x.2.2.1 ++ byB ++ decB x.2.2.2
def strL (nt : List Nt) : List Value := nt.map fun x => Value.string (noteT x)
theorem strL_snoc (nt : List Nt) (x : Nt) : strL (nt ++ [x]) = strL nt ++ [.string (noteT x)] := by simp [strL]
theorem fm_size {r : Nat} (h : r < 8192) : (fmS (r : Nat)).size ≤ 13 := by
  rw [fmS_on h]
  show (ltsN r).toArray.size ≤ 13
  rw [List.size_toArray]
  unfold ltsN
  split
  · decide
  · exact ltsF_len r 13
theorem strInfo : (Tryz.prog.info? 9).map (fun i => (i.zero, i.size, i.bytes)) = some (some (.string ⟨#[]⟩), 1, 16) := by kernel_rfl
theorem own_diff {w : World} {b1 b2 T1 T2 s1 s2 g m c k : Nat} {v : Value} {xs ys : List Value} (h1 : w.ownsRow b1 T1 s1 (.slice (some ⟨g, 0, none⟩) m c) m xs) (h2 : w.ownsRow b2 T2 s2 v k ys) (hT : T1 ≠ T2) : some g ≠ v.ownBlock := by
  rcases h1.2 with ⟨hv, _⟩ | ⟨g1, c1, cur1, hv, _, hg1, _⟩
  · cases hv
  · cases hv
    rcases h2.2 with ⟨rfl, _⟩ | ⟨g2, c2, cur2, rfl, _, hg2, _⟩
    · intro h; cases h
    · intro h
      have e : g = g2 := by simpa [Value.ownBlock] using h
      subst e
      rw [hg1] at hg2
      cases hg2
      exact hT rfl
theorem own_base {w : World} {b b' T sz n : Nat} {v : Value} {xs : List Value} (h : w.ownsRow b T sz v n xs) (hb : b' ≤ b) : w.ownsRow b' T sz v n xs := by
  refine ⟨h.1, h.2.imp id ?_⟩
  rintro ⟨g, cap, cur, hv, hB, r⟩
  exact ⟨g, cap, cur, hv, by omega, r⟩
/-- What the pass knows of the world. -/
structure PS (w wr : World) (n nn : Nat) (s : ClS) (v : Value) : Prop where
  tk : ∃ g cap b, Tk wr w.heap.size n (.slice (some ⟨g, 0, none⟩) nn cap) ∧ g ≠ w.heap.size ∧ g ≠ w.heap.size + 1 ∧ wr.ownsRow b 3 1 (.slice (some ⟨g, 0, none⟩) nn cap) nn (rowL (fl n s.1) nn)
  nts : wr.ownsRow (w.heap.size + 1 + 1) 9 1 v s.2.length (strL s.2)
  res : Tk wr (w.heap.size + 1) 0 (.slice none 0 0)
  bel : Below w.heap.size w wr
  siz : w.heap.size + 1 + 1 + 1 ≤ wr.heap.size
theorem PS.below {w wr wr' : World} {n nn : Nat} {s : ClS} {v : Value} (h : PS w wr n nn s v) (hb : Below wr.heap.size wr wr') : PS w wr' n nn s v where
  tk := by
    obtain ⟨g, cap, b, h1, h2, h3, h4⟩ := h.tk
    exact ⟨g, cap, b, h1.below hb h1.lt, h2, h3, own_below' h4 hb⟩
  nts := own_below' h.nts hb
  res := h.res.below hb h.res.lt
  bel := h.bel.trans (hb.mono h.bel.size)
  siz := Nat.le_trans h.siz hb.size
set_option maxHeartbeats 4000000 in
set_option maxRecDepth 100000 in
theorem l6Pass_nn (o n nn : Nat) (hnn : nn = n * n) (R : Nat → Nat → Nat) (hR : OkR n R) (g cap b0 : Nat) (w : World) (hC : TC w o) (ho : o < w.heap.size) (hO : w.ownsRow b0 3 1 (.slice (some ⟨g, 0, none⟩) nn cap) nn (rowL (fl n R) nn)) :
    Calls Tryz.prog 31 #[.slice (some ⟨o, 0, none⟩) 169 169, .agg #[.int .i64 n, .slice (some ⟨g, 0, none⟩) nn cap]] w fun e w' => (∃ g' cap' b v, e = .returned (.tuple #[.agg #[.int .i64 n, .slice (some ⟨g', 0, none⟩) nn cap'], v]) ∧ w'.ownsRow b 3 1 (.slice (some ⟨g', 0, none⟩) nn cap') nn (rowL (fl n (passL n (R, []) (edL n)).1) nn) ∧ w'.ownsRow w.heap.size 9 1 v (passL n (R, []) (edL n)).2.length (strL (passL n (R, []) (edL n)).2)) ∧ Below w.heap.size w w' := by
  obtain ⟨i0, hi0, hz0, hz1, hz2⟩ := info_parts strInfo
  have h6 := hR.le
  have hgl := (hO.lt g rfl).2
  have HOK := hid hR
  have h36 : nn ≤ 36 := by rw [hnn]; exact Nat.mul_le_mul h6 h6
  have HNN := hid hnn
  have HP0 := hid (show PS w (((w.alloc (.cells #[.int .i64 (n : Int), .slice (some ⟨g, 0, none⟩) nn cap] 38)).alloc (.cells #[.int .i64 0, .slice none 0 0] 38)).alloc (.cells #[] 9)) n nn (R, []) (.slice (some ⟨w.heap.size + 1 + 1, 0, none⟩) 0 0) from by
    refine ⟨⟨g, cap, b0, ((Tk.made w n (.slice (some ⟨g, 0, none⟩) nn cap)).alloc _).alloc _, by omega, by omega, ((hO.alloc _).alloc _).alloc _⟩, ?_, ?_, (((Below.refl _ _).alloc (Nat.le_refl _) _).alloc (by simp) _).alloc (by simp; omega) _, by rw [World.size_alloc, World.size_alloc, World.size_alloc]; omega⟩
    · have h := World.ownsRow_made (base := w.heap.size + 1 + 1) (e := 9) (size := 1) ((w.alloc (.cells #[.int .i64 (n : Int), .slice (some ⟨g, 0, none⟩) nn cap] 38)).alloc (.cells #[.int .i64 0, .slice none 0 0] 38)) #[] 0 (by rw [World.size_alloc, World.size_alloc]; omega) (by decide) rfl
      rw [World.size_alloc, World.size_alloc] at h
      exact h
    · have h := Tk.made (w.alloc (.cells #[.int .i64 (n : Int), .slice (some ⟨g, 0, none⟩) nn cap] 38)) 0 (.slice none 0 0)
      rw [World.size_alloc] at h
      exact h.alloc _)
  have HMU := hid (mu_bd hR)
  have HC := hid hC
  clear hC hO hR hnn
  have HS := AllLt.start w; go_enter Tryz.func31, Tryz.ntmps31
  go_wp2_with fail
  go_loopw [6, 7] (fun v a wr => ∃ i : Nat, i ≤ n ∧ a = .int .i64 i ∧ Hid (PS w wr n nn (passL n (R, []) (edF n i)) v)) (fun _ a _ => n - (intOf a).toNat)
  case atStart => exact ⟨0, by omega, rfl, HP0⟩
  case round =>
    obtain ⟨i, hi, rfl, HP⟩ := hrel
    clear HS HP0
    have t0 := (HP.out.tk).choose_spec.choose_spec.choose_spec.1.c0
    by_cases hin : i < n
    · have hdi : decide ((i : Int) < (n : Int)) = true := by simp; omega
      go_wp2_with fail
      clear t0
      go_loopw [6, 8] (fun v a wr => ∃ k : Nat, i + 1 ≤ k ∧ k ≤ n ∧ a = .int .i64 k ∧ Hid (PS w wr n nn (passL n (R, []) (edF n i ++ edI i (k - i - 1))) v)) (fun _ a _ => n - (intOf a).toNat)
      case atStart => exact ⟨i + 1, by omega, by omega, by go_num, by rw [show i + 1 - i - 1 = 0 by omega]; simpa [edI] using HP⟩
      case round =>
        obtain ⟨k, hk1, hkn', rfl, HP2⟩ := hrel
        (try clear HP)
        have t0 := (HP2.out.tk).choose_spec.choose_spec.choose_spec.1.c0
        by_cases hkn : k < n
        · have hdk : decide ((k : Int) < (n : Int)) = true := by simp; omega
          go_wp2_with fail
          clear t0
          have HOKs := hid (passL_ok (s := (R, [])) HOK.out (l := edF n i ++ edI i (k - i - 1)) (fun p hp => by
            rcases List.mem_append.1 hp with hp | hp
            · have := (edF_mem (show i ≤ n by omega)).1 hp; omega
            · have := edI_mem.1 hp; omega))
          have HMUs := hid (passL_mu (n := n) (l := edF n i ++ edI i (k - i - 1)) (R, []) (fun p hp => by
            rcases List.mem_append.1 hp with hp | hp
            · have := (edF_mem (show i ≤ n by omega)).1 hp; omega
            · have := edI_mem.1 hp; omega))
          have HNX := hid (show narF (passL n (R, []) (edF n i ++ edI i (k - i - 1))) i k n = passL n (R, []) (edF n i ++ edI i (k + 1 - i - 1)) by
            rw [show k + 1 - i - 1 = (k - i - 1) + 1 by omega, edI_succ, show i + 1 + (k - i - 1) = k by omega, ← List.append_assoc, passL_snoc])
          generalize passL n (R, []) (edF n i ++ edI i (k - i - 1)) = s0 at *
          go_loopw [6, 9] (fun v a wr => ∃ b : Nat, b ≤ n ∧ a = .int .i64 b ∧ Hid (PS w wr n nn (narF s0 i k b) v)) (fun _ a _ => n - (intOf a).toNat)
          case atStart => exact ⟨0, by omega, rfl, HP2⟩
          case round =>
            obtain ⟨b, hb, rfl, HP3⟩ := hrel
            (try clear HP2)
            obtain ⟨wi, rfl⟩ : ∃ wi : World, wi = wr := ⟨_, rfl⟩
            by_cases hbn : b < n
            · have hdb : decide ((b : Int) < (n : Int)) = true := by simp; omega
              have HOKb := hid (narF_ok HOKs.out (show i < n by omega) hkn (show i ≠ k by omega) b)
              have HMUb := hid (narF_mu (n := n) s0 (show i < k by omega) hkn b)
              have HSX : Hid (narF s0 i k (b + 1) = stp (narF s0 i k b) i k b) := hid rfl
              generalize hs2 : narF s0 i k (b + 1) = s2 at *
              have HS2 := hid hs2
              clear hs2
              generalize narF s0 i k b = s at *
              have HLT := hid HOKb.out.lt
              have hl5 : s.2.length ≤ 122865 := by have := HMUb.out; have := HMUs.out; have := HMU.out; simp only [List.length_nil] at *; omega
              obtain ⟨gt, capt, bt, HT, hg1, hg2, HO⟩ := HP3.out.tk
              have t0 := HT.c0
              have t1 := HT.c1
              have HCw := hid (show TC wi o from fun x hx => (HP3.out.bel.cell (p := ⟨o, x, none⟩) ho).trans (HC.out x hx))
              have hol : o < wi.heap.size := Nat.lt_of_lt_of_le ho HP3.out.bel.size
              have HO2 : wi.ownsRow bt 3 1 (.slice (some ⟨gt, 0, none⟩) (n * n) capt) (n * n) (rowL (fl n s.1) (n * n)) := by rw [← HNN.out]; exact HO
              have HTR := hid (l6Tri_any o n h6 s.1 HLT.out i k b hin hkn hbn (.slice (some ⟨gt, 0, none⟩) (n * n) capt) wi HCw.out hol (ts_fl HO2))
              rw [← HNN.out] at HTR
              clear HO2
              have HTT := hid HT
              have HOO := hid HO
              clear HT HO
              go_wp2_with fail
              (with_reducible refine HTR.out.mono ?_)
              rintro e w1 ⟨rfl, hb1⟩
              have HT1 := hid (HTT.out.below hb1 HTT.out.lt)
              have HO1 := hid (own_below' HOO.out hb1)
              have HP1 := hid (HP3.out.below hb1)
              clear hb1 t0 t1
              obtain ⟨gg, cc, hv, _, _, c1, _⟩ := row_at HO1.out (show i * n + k < nn by rw [HNN.out]; exact at_lt hin hkn)
              cases hv
              rw [fl_at n s.1 hkn] at c1
              have t0 := HT1.out.c0
              have t1 := HT1.out.c1
              have hxlt : i * n + k < nn := by rw [HNN.out]; exact at_lt hin hkn
              obtain ⟨x, hx⟩ : ∃ x : Nat, x = i * n := ⟨_, rfl⟩
              have hmx : (i : Int) * (n : Int) = (x : Int) := by rw [hx]; push_cast; rfl
              rw [← hx] at c1 hxlt
              have HX := hid hx
              clear hx
              have p1 : (0 : Int) ≤ (x : Int) + (k : Int) := by omega
              have hq1 : (x : Int) + (k : Int) < (nn : Int) := by omega
              by_cases e : triN s.1 i k b = s.1 i k
              · have hq : (((triN s.1 i k b : Nat) : Int) != ((s.1 i k : Nat) : Int)) = false := by rw [e]; simp
                have HEQ := hid (show s2 = s by rw [HSX.out, stp_same e])
                clear e
                go_wp2_with fail
                refine ⟨?_, ?measure⟩
                · exact ⟨b + 1, by omega, by go_num, by rw [HS2.out, HEQ.out]; exact HP1⟩
                case measure => simp [intOf]; omega
              · have hq : (((triN s.1 i k b : Nat) : Int) != ((s.1 i k : Nat) : Int)) = true := by rw [bne_iff_ne]; omega
                have HEQ := hid (show s2 = (putR s.1 i k (triN s.1 i k b), s.2 ++ [(i, triN s.1 i k b, k, b)]) by rw [HSX.out, stp_less e])
                have hr8 := triN_lt HLT.out i k b
                clear e
                generalize triN s.1 i k b = r at *
                have HO2 : w1.ownsRow bt 3 1 (.slice (some ⟨gt, 0, none⟩) (n * n) capt) (n * n) (rowL (fl n s.1) (n * n)) := by rw [← HNN.out]; exact HO1.out
                have HLP := hid (l5Put_any n h6 (fl n s.1) i k r hin hkn hr8 bt (.slice (some ⟨gt, 0, none⟩) (n * n) capt) w1 HO2)
                rw [← HNN.out] at HLP
                clear HO2
                have hpos : 0 < nn := by omega
                have HPR := hid (show ∀ x, x < nn → updL (updL (fl n s.1) (i * n + k) r) (k * n + i) (turN r) x = fl n (putR s.1 i k r) x from fun x hx => put_row hin hkn (show i ≠ k by omega) (show x < n * n by rw [← HNN.out]; exact hx))
                obtain ⟨S1, hS1⟩ : ∃ S, S = decB i ++ spB := ⟨_, rfl⟩
                obtain ⟨S2, hS2⟩ : ∃ S, S = S1 ++ fmS ((r : Nat) : Int) := ⟨_, rfl⟩
                obtain ⟨S3, hS3⟩ : ∃ S, S = S2 ++ spB := ⟨_, rfl⟩
                obtain ⟨S4, hS4⟩ : ∃ S, S = S3 ++ decB k := ⟨_, rfl⟩
                obtain ⟨S5, hS5⟩ : ∃ S, S = S4 ++ byB := ⟨_, rfl⟩
                obtain ⟨S6, hS6⟩ : ∃ S, S = S5 ++ decB b := ⟨_, rfl⟩
                have hf13 := fm_size hr8
                have z1 : S1.size = 2 := by rw [hS1, ByteArray.size_append]; rfl
                have z2 : S2.size ≤ 15 := by rw [hS2, ByteArray.size_append]; omega
                have z3 : S3.size ≤ 16 := by rw [hS3, ByteArray.size_append]; show S2.size + 1 ≤ 16; omega
                have z4 : S4.size ≤ 17 := by rw [hS4, ByteArray.size_append]; show S3.size + 1 ≤ 17; omega
                have z5 : S5.size ≤ 21 := by rw [hS5, ByteArray.size_append]; show S4.size + 4 ≤ 21; omega
                have r1 : ∀ w : World, (Op.stringOp .add (decB i) ⟨#[32]⟩).run Tryz.prog w = .ok (.string S1) w := fun w => by rw [run_string_add_sum (P := Tryz.prog) (w := w) _ _ (by show 1 + 1 ≤ _; omega), hS1]; rfl
                have r2 : ∀ w : World, (Op.stringOp .add S1 (fmS ((r : Nat) : Int))).run Tryz.prog w = .ok (.string S2) w := fun w => by rw [run_string_add_sum (P := Tryz.prog) (w := w) _ _ (by omega), hS2]
                have r3 : ∀ w : World, (Op.stringOp .add S2 ⟨#[32]⟩).run Tryz.prog w = .ok (.string S3) w := fun w => by rw [run_string_add_sum (P := Tryz.prog) (w := w) _ _ (by show S2.size + 1 ≤ _; omega), hS3]; rfl
                have r4 : ∀ w : World, (Op.stringOp .add S3 (decB k)).run Tryz.prog w = .ok (.string S4) w := fun w => by rw [run_string_add_sum (P := Tryz.prog) (w := w) _ _ (by show S3.size + 1 ≤ _; omega), hS4]
                have r5 : ∀ w : World, (Op.stringOp .add S4 ⟨#[32, 98, 121, 32]⟩).run Tryz.prog w = .ok (.string S5) w := fun w => by rw [run_string_add_sum (P := Tryz.prog) (w := w) _ _ (by show S4.size + 4 ≤ _; omega), hS5]; rfl
                have r6 : ∀ w : World, (Op.stringOp .add S5 (decB b)).run Tryz.prog w = .ok (.string S6) w := fun w => by rw [run_string_add_sum (P := Tryz.prog) (w := w) _ _ (by show S5.size + 1 ≤ _; omega), hS6]
                have HS6 := hid (show noteT (i, r, k, b) = S6 by rw [hS6, hS5, hS4, hS3, hS2, hS1]; rfl)
                have d4 := HP1.out.siz
                clear hS1 hS2 hS3 hS4 hS5 hS6 hf13 z1 z2 z3 z4 z5
                go_wp2_with fail
                (with_reducible refine HLP.out.mono ?_)
                rintro e w2 ⟨⟨u', rfl, hown⟩, hb2⟩
                obtain ⟨g2, cap2, rfl, hgb2, hgl2⟩ := hown.form hpos
                have HOW := hid (own_ext hown HPR.out)
                have HT2 := HT1.out.below hb2 HT1.out.lt
                have HP2 := hid (HP1.out.below hb2)
                have a0 := HT2.c0
                have a1 := HT2.c1
                have af0 := HT2.fr 0
                have af1 := HT2.fr 1
                have HP3' := hid (show PS w ((w2.setCell ⟨w.heap.size, 0, none⟩ (.int .i64 (n : Int))).setCell ⟨w.heap.size, 1, none⟩ (.slice (some ⟨g2, 0, none⟩) nn cap2)) n nn (putR s.1 i k r, s.2) u6 from by
                  refine ⟨?_, own_set (own_set HP2.out.nts (p := ⟨w.heap.size, 0, none⟩) (show w.heap.size < w.heap.size + 1 + 1 by omega) _) (p := ⟨w.heap.size, 1, none⟩) (show w.heap.size < w.heap.size + 1 + 1 by omega) _, (HP2.out.res.far (p := ⟨w.heap.size, 0, none⟩) (show w.heap.size + 1 ≠ w.heap.size by omega) _).far (p := ⟨w.heap.size, 1, none⟩) (show w.heap.size + 1 ≠ w.heap.size by omega) _, (HP2.out.bel.setCell (p := ⟨w.heap.size, 0, none⟩) (Nat.le_refl _) _).setCell (p := ⟨w.heap.size, 1, none⟩) (Nat.le_refl _) _, by have := HP2.out.siz; simpa using this⟩
                  exact ⟨g2, cap2, _, HT2.set0.set1 _, by omega, by omega, own_set (own_set HOW.out (p := ⟨w.heap.size, 0, none⟩) (show w.heap.size < w1.heap.size + 1 + 1 by omega) _) (p := ⟨w.heap.size, 1, none⟩) (show w.heap.size < w1.heap.size + 1 + 1 by omega) _⟩)
                clear hown hb2 HT2 t0 t1 c1
                go_upto_region 14 with fail
                generalize (w2.setCell ⟨w.heap.size, 0, none⟩ (.int .i64 (n : Int))).setCell ⟨w.heap.size, 1, none⟩ (.slice (some ⟨g2, 0, none⟩) nn cap2) = w3 at *
                clear a0 a1 af0 af1
                go_wp2_with fail
                (with_reducible refine (dec_any i (by omega) _).mono ?_)
                rintro e w4 ⟨rfl, hb⟩
                have HP4 := hid (HP3'.out.below hb)
                clear hb
                go_wp2_with fail
                (with_reducible refine (sFormatRel_any _ _).mono ?_)
                rintro e w4' ⟨rfl, rfl⟩
                go_wp2_with fail
                (with_reducible refine (dec_any k (by omega) _).mono ?_)
                rintro e w5 ⟨rfl, hb⟩
                have HP5 := hid (HP4.out.below hb)
                clear hb
                go_wp2_with fail
                (with_reducible refine (dec_any b (by omega) _).mono ?_)
                rintro e w6 ⟨rfl, hb⟩
                have HP6 := hid (HP5.out.below hb)
                have d6 := HP6.out.siz
                clear hb
                go_wp2_with (at_builtin; refine wpList_append_own _ rfl _ _ 39 rfl (w.heap.size + 1 + 1) 9 i0 _ 1 16 Tryz.underlying39 hi0 hz0 hz1 hz2 rfl (by decide) _ _ _ rfl (HP6.out.nts.alloc _) ⟨w6.heap.size, 0, none⟩ 1 1 [.string S6] rfl rfl ?c1 ?c2 ?c3 ?c4 ?c5 ?_)
                case c1 =>
                  intro j x hj
                  match j, hj with
                  | 0, hj => simp at hj; subst hj; simp [Addr.add, go_sem]
                case c2 => intro x hx; simp at hx; subst hx; rfl
                case c3 => unfold maxLen; omega
                case c4 => omega
                case c5 => simp; omega
                intro v' w7 hown' hgrow _
                have HP7 := hid (show PS w w7 n nn s2 v' from by
                  obtain ⟨gx, cx, bx, h1, h2, h3, h4⟩ := HP6.out.tk
                  have hnl := HP6.out.nts.lt
                  refine ⟨⟨gx, cx, bx, ?_, h2, h3, ?_⟩, ?_, ?_, ?_, ?_⟩
                  · exact (hgrow.block _ (by have := h1.lt; simp; omega) (fun e => by have := (hnl _ e.symm).1; omega)).trans (h1.alloc _)
                  · rw [HEQ.out]
                    exact (h4.alloc _).kept hgrow (.inr (own_diff h4 HP6.out.nts (by decide)))
                  · rw [HEQ.out]
                    show w7.ownsRow _ _ 1 v' (s.2 ++ [(i, r, k, b)]).length (strL (s.2 ++ [(i, r, k, b)]))
                    rw [strL_snoc, List.length_append, HS6.out]
                    exact hown'
                  · exact (hgrow.block _ (by have := HP6.out.res.lt; simp; omega) (fun e => by have := (hnl _ e.symm).1; omega)).trans (HP6.out.res.alloc _)
                  · exact (HP6.out.bel.alloc HP6.out.bel.size _).grown hgrow (by have := HP6.out.bel.size; simp; omega) (fun j hj => by have := (hnl j hj).1; omega)
                  · have := hgrow.size; simp at this; omega)
                clear hown' hgrow
                go_wp2_with fail
                refine ⟨?_, ?measure⟩
                · exact ⟨b + 1, by omega, by go_num, by rw [HS2.out]; exact HP7⟩
                case measure => simp [intOf]; omega
            · obtain rfl : b = n := by omega
              have hdb : decide ((b : Int) < (b : Int)) = false := by simp
              have t0 := (HP3.out.tk).choose_spec.choose_spec.choose_spec.1.c0
              go_wp2_with fail
              refine ⟨?_, ?measure⟩
              · exact ⟨k + 1, by omega, by omega, by go_num, by rw [← HNX.out]; exact HP3⟩
              case measure => simp [intOf]; omega
        · obtain rfl : k = n := by omega
          have hdk : decide ((k : Int) < (k : Int)) = false := by simp
          have HQ := hid (show edF k i ++ edI i (k - i - 1) = edF k (i + 1) by
            show _ = edF k i ++ edI i (k - 1 - i)
            rw [show k - 1 - i = k - i - 1 by omega])
          go_wp2_with fail
          refine ⟨?_, ?measure⟩
          · exact ⟨i + 1, by omega, by go_num, by rw [← HQ.out]; exact HP2⟩
          case measure => simp [intOf]; omega
    · obtain rfl : i = n := by omega
      have hdi : decide ((i : Int) < (i : Int)) = false := by simp
      have HL := hid (show passL i (R, []) (edF i i) = passL i (R, []) (edL i) from rfl)
      generalize passL i (R, []) (edF i i) = s at *
      obtain ⟨gt, capt, bt, HT, hg1, hg2, HO⟩ := HP.out.tk
      have t0 := HT.c0
      have t1 := HT.c1
      have r0 := HP.out.res.c0
      have r1 := HP.out.res.c1
      have rf0 := HP.out.res.fr 0
      have rf1 := HP.out.res.fr 1
      obtain ⟨av, mv, cv, rfl⟩ : ∃ ao n' cap, u6 = .slice ao n' cap := by
        rcases HP.out.nts.2 with ⟨hv, _⟩ | ⟨g, cap, cur, hv, _⟩
        · exact ⟨_, _, _, hv⟩
        · exact ⟨_, _, _, hv⟩
      have HX1 := hid (own_far (own_far HO (p := ⟨w.heap.size + 1, 0, none⟩) hg2 (.int .i64 (i : Int))) (p := ⟨w.heap.size + 1, 1, none⟩) hg2 (.slice (some ⟨gt, 0, none⟩) nn capt))
      have HX2 := hid (own_base (own_set (own_set HP.out.nts (p := ⟨w.heap.size + 1, 0, none⟩) (show w.heap.size + 1 < w.heap.size + 1 + 1 by omega) (.int .i64 (i : Int))) (p := ⟨w.heap.size + 1, 1, none⟩) (show w.heap.size + 1 < w.heap.size + 1 + 1 by omega) (.slice (some ⟨gt, 0, none⟩) nn capt)) (show w.heap.size ≤ w.heap.size + 1 + 1 by omega))
      have HBE := hid ((HP.out.bel.setCell (p := ⟨w.heap.size + 1, 0, none⟩) (show w.heap.size ≤ w.heap.size + 1 by omega) (.int .i64 (i : Int))).setCell (p := ⟨w.heap.size + 1, 1, none⟩) (show w.heap.size ≤ w.heap.size + 1 by omega) (.slice (some ⟨gt, 0, none⟩) nn capt))
      clear HT HO
      go_wp2_with fail
      refine bodyPost_ret (by simp [results, Tryz.results31, go_sem, *]; try rfl) rfl ?_
      exact ⟨⟨gt, capt, bt, _, rfl, by rw [← HL.out]; exact HX1.out, by rw [← HL.out]; exact HX2.out⟩, HBE.out⟩
theorem l6Pass_any (o n : Nat) (R : Nat → Nat → Nat) (hR : OkR n R) (g cap b0 : Nat) (w : World) (hC : TC w o) (ho : o < w.heap.size) (hO : w.ownsRow b0 3 1 (.slice (some ⟨g, 0, none⟩) (n * n) cap) (n * n) (rowL (fl n R) (n * n))) :
    Calls Tryz.prog 31 #[.slice (some ⟨o, 0, none⟩) 169 169, .agg #[.int .i64 n, .slice (some ⟨g, 0, none⟩) (n * n) cap]] w fun e w' => (∃ g' cap' b v, e = .returned (.tuple #[.agg #[.int .i64 n, .slice (some ⟨g', 0, none⟩) (n * n) cap'], v]) ∧ w'.ownsRow b 3 1 (.slice (some ⟨g', 0, none⟩) (n * n) cap') (n * n) (rowL (fl n (passL n (R, []) (edL n)).1) (n * n)) ∧ w'.ownsRow w.heap.size 9 1 v (passL n (R, []) (edL n)).2.length (strL (passL n (R, []) (edL n)).2)) ∧ Below w.heap.size w w' :=
  l6Pass_nn o n (n * n) rfl R hR g cap b0 w hC ho hO
end
section
section
open Go.RowKit
set_option linter.unusedVariables false
set_option linter.unusedSimpArgs false
theorem pass_cls {n : Nat} {R : Nat → Nat → Nat} : ((((passL n (R, []) (edL n)).2.length : Nat) : Int) == 0) = clsB n R := by
  rw [Bool.eq_iff_iff, clsB_iff, beq_iff_eq]
  constructor
  · intro h
    exact (passL_quiet (s := (R, [])) (show (passL n (R, []) (edL n)).2.length = 0 by omega)).2
  · intro h
    rw [passL_stb (s := (R, [])) h]; rfl
theorem own_slice {w : World} {b T sz n : Nat} {v : Value} {xs : List Value} (h : w.ownsRow b T sz v n xs) : ∃ a c, v = .slice a n c := by
  rcases h.2 with ⟨hv, h0⟩ | ⟨g, cap, cur, hv, _⟩
  · exact ⟨_, _, by rw [hv, h0]⟩
  · exact ⟨_, _, hv⟩
end
section
open Go.RowKit
set_option linter.unusedVariables false
set_option linter.unusedSimpArgs false
/-- What is returned as a network and two values. -/
theorem res_net3 {fn : Func} {p u v : Tmp} (h : fn.results = #[.cell p 53, .tmp u, .tmp v]) (tmps : Array Value) (w : World) (g n : Nat) (M : Nat → Nat → Nat) (x y : Value) (hp : tmps.getD p undef = .pointer (some ⟨g, 0, none⟩)) (hu : tmps.getD u undef = x) (hv : tmps.getD v undef = y) (hg : NB w g n M) :
    (results fn tmps).run Tryz.prog w = .ok (.tuple #[.agg (netV n M), x, y]) w := by
  obtain ⟨fs, hus⟩ := nUnd
  have hp' : tmps[p]?.getD undef = .pointer (some ⟨g, 0, none⟩) := by simpa using hp
  have hu' : tmps[u]?.getD undef = x := by simpa using hu
  have hv' : tmps[v]?.getD undef = y := by simpa using hv
  simp only [results, h]
  simp [asAddr, hp', hu', hv', Result.andThen, run_loadVar_row w g _ _ _ _ _ hg hus rfl (nInfo2 n M)]
set_option maxHeartbeats 1000000 in
theorem closedOf_no (z : Int) (s : ByteArray) (h : NV z s = false) (w : World) (hT : TB w) :
    Calls Tryz.prog 24 #[.agg #[.int .i64 z, .string s]] w fun e w' => e = .returned (.tuple #[.agg (netV 0 fun _ _ => 0), .slice none 0 0, .bool false]) ∧ Below w.heap.size w w' := by
  have HB := hid (((Below.refl w.heap.size w).alloc (Nat.le_refl _) (.cells #[.int .i64 z, .string s] 25)).alloc (by simp) (.cells (netV 0 fun _ _ => 0) 53))
  have HN0 := hid (show NB ((w.alloc (.cells #[.int .i64 z, .string s] 25)).alloc (.cells (netV 0 fun _ _ => 0) 53)) (w.heap.size + 1) 0 (fun _ _ => 0) by
    have h := NB.made (w.alloc (.cells #[.int .i64 z, .string s] 25)) 0 (fun _ _ => 0)
    rw [World.size_alloc] at h
    exact h)
  have hz : Hid (((w.alloc (.cells #[.int .i64 z, .string s] 25)).alloc (.cells (netV 0 fun _ _ => 0) 53)).heap.size = w.heap.size + 1 + 1) := hid (by rw [World.size_alloc, World.size_alloc])
  have HT := hid (hT.below HB.out)
  have HNV := hid h
  clear h hT
  have HS := AllLt.start w; go_enter Tryz.func24, Tryz.ntmps24
  go_wp2_with (refine al_net rfl rfl ?_)
  (with_reducible refine (networkOf_no z s HNV.out _ HT.out).mono ?_)
  rintro e w1 ⟨rfl, hb⟩
  have HB1 := hid (HB.out.trans (hb.mono HB.out.size))
  have HN1 := hid (HN0.out.below' hb)
  have hz1 : w.heap.size + 1 + 1 ≤ w1.heap.size := by have := hb.size; have := hz.out; omega
  have HB2 := hid (below_setRow (HB1.out.alloc HB1.out.size (.cells (netV 0 fun _ _ => 0) 53)) HB1.out.size (netV 0 fun _ _ => 0))
  have HN2 := hid ((HN1.out.alloc (.cells (netV 0 fun _ _ => 0) 53)).rowFar (b := w1.heap.size) (by omega) (netV 0 fun _ _ => 0))
  clear hb
  go_upto_region 2 with (first | refine al_net rfl rfl ?_ | refine st_net rfl _ _ rfl rfl rfl (NB.made w1 0 fun _ _ => 0) ?_)
  generalize (w1.alloc (.cells (netV 0 fun _ _ => 0) 53)).setRow w1.heap.size (netV 0 fun _ _ => 0) = w2 at *
  go_wp2_with (first | refine bu_net rfl rfl ?_ | refine st_net rfl _ _ rfl rfl rfl HN2.out ?_)
  refine bodyPost_ret (res_net3 rfl _ _ _ _ _ _ _ rfl rfl rfl (NB.row HN2.out _ _)) rfl ?_
  exact ⟨rfl, below_setRow HB2.out (by omega) _⟩
set_option maxHeartbeats 2000000 in
theorem closedOf_yes (n : Nat) (R : Nat → Nat → Nat) (hR : OkR n R) (w : World) (hT : TB w) :
    Calls Tryz.prog 24 #[.agg #[.int .i64 n, .string (netS n R)]] w fun e w' => (∃ v, e = .returned (.tuple #[.agg (netV n (cloR n R)), v, .bool true])) ∧ Below w.heap.size w w' := by
  have HNO := hid (networkOf_yes n R hR)
  have HOK := hid hR
  clear hR
  generalize netS n R = s at *
  have HB := hid (((Below.refl w.heap.size w).alloc (Nat.le_refl _) (.cells #[.int .i64 n, .string s] 25)).alloc (by simp) (.cells (netV 0 fun _ _ => 0) 53))
  have HN0 := hid (show NB ((w.alloc (.cells #[.int .i64 n, .string s] 25)).alloc (.cells (netV 0 fun _ _ => 0) 53)) (w.heap.size + 1) 0 (fun _ _ => 0) by
    have h := NB.made (w.alloc (.cells #[.int .i64 n, .string s] 25)) 0 (fun _ _ => 0)
    rw [World.size_alloc] at h
    exact h)
  have hz : Hid (((w.alloc (.cells #[.int .i64 n, .string s] 25)).alloc (.cells (netV 0 fun _ _ => 0) 53)).heap.size = w.heap.size + 1 + 1) := hid (by rw [World.size_alloc, World.size_alloc])
  have HT := hid (hT.below HB.out)
  have HT0 := hid hT
  clear hT
  have HS := AllLt.start w; go_enter Tryz.func24, Tryz.ntmps24
  go_wp2_with (refine al_net rfl rfl ?_)
  (with_reducible refine (HNO.out _ HT.out).mono ?_)
  rintro e w1 ⟨rfl, hb⟩
  have HB1 := hid (HB.out.trans (hb.mono HB.out.size))
  have HN1 := hid (HN0.out.below' hb)
  have hz1 : w.heap.size + 1 + 1 ≤ w1.heap.size := by have := hb.size; have := hz.out; omega
  have HB2 := hid (below_setRow (HB1.out.alloc HB1.out.size (.cells (netV 0 fun _ _ => 0) 53)) HB1.out.size (netV n R))
  have HN2 := hid ((HN1.out.alloc (.cells (netV 0 fun _ _ => 0) 53)).rowFar (b := w1.heap.size) (by omega) (netV n R))
  have HL2 := hid ((NB.made w1 0 fun _ _ => 0).row n R)
  clear hb
  go_upto_region 2 with (first | refine al_net rfl rfl ?_ | refine st_net rfl _ _ rfl rfl rfl (NB.made w1 0 fun _ _ => 0) ?_)
  generalize (w1.alloc (.cells (netV 0 fun _ _ => 0) 53)).setRow w1.heap.size (netV n R) = w2 at *
  go_wp2_with fail
  (with_reducible refine (allComp_any w2 (HT0.out.below HB2.out)).mono ?_)
  rintro e w3 ⟨⟨o, rfl, ho, hcb⟩, hb⟩
  have HB3 := hid (HB2.out.trans (hb.mono HB2.out.size))
  have HN3 := hid (HN2.out.below' hb)
  have HL3 := hid (HL2.out.below' hb)
  have HC3 := hid hcb
  have hlg := HL2.out.lt
  clear hb hcb
  go_wp2_with fail
  (with_reducible refine (close_any o w1.heap.size n R HOK.out w3 (HT0.out.below HB3.out) HC3.out.tc HC3.out.lt (by omega) HL3.out).mono ?_)
  rintro e w4 ⟨⟨v, rfl, hown⟩, hn4, hw4⟩
  have HB4 := hid (HB3.out.trans (hw4.below (by omega) HB3.out.size))
  have HN4 := hid (show NB w4 (w.heap.size + 1) 0 (fun _ _ => 0) from (hw4.block _ HN3.out.lt (by omega)).trans HN3.out)
  have HL4 := hid hn4
  clear hown hn4 hw4
  go_wp2_with (first | refine ld_net rfl _ rfl rfl HL4.out ?_ | refine st_net rfl _ _ rfl rfl rfl HN4.out ?_)
  refine bodyPost_ret (res_net3 rfl _ _ _ _ _ _ _ rfl rfl rfl (NB.row HN4.out _ _)) rfl ?_
  exact ⟨⟨_, rfl⟩, below_setRow HB4.out (by omega) _⟩
set_option maxHeartbeats 1000000 in
theorem iCloseNet_no (z : Int) (s : ByteArray) (h : NV z s = false) (w : World) (hT : TB w) :
    Calls Tryz.prog 12 #[.agg #[.int .i64 z, .string s]] w fun e w' => e = .returned (.tuple #[.agg #[.int .i64 0, .string ⟨#[]⟩], .bool false]) ∧ Below w.heap.size w w' := by
  have HK := hid (show Nk ((w.alloc (.cells #[.int .i64 z, .string s] 25)).alloc (.cells #[.int .i64 0, .string ⟨#[]⟩] 25)) (w.heap.size + 1) 0 ⟨#[]⟩ by
    have h := Nk.made (w.alloc (.cells #[.int .i64 z, .string s] 25)) 0 ⟨#[]⟩
    rw [World.size_alloc] at h
    exact h)
  have HB := hid (((Below.refl w.heap.size w).alloc (Nat.le_refl _) (.cells #[.int .i64 z, .string s] 25)).alloc (by simp) (.cells #[.int .i64 0, .string ⟨#[]⟩] 25))
  have hz : Hid (((w.alloc (.cells #[.int .i64 z, .string s] 25)).alloc (.cells #[.int .i64 0, .string ⟨#[]⟩] 25)).heap.size = w.heap.size + 1 + 1) := hid (by rw [World.size_alloc, World.size_alloc])
  have HT := hid (hT.below HB.out)
  have HNV := hid h
  clear h hT
  have HS := AllLt.start w; go_enter Tryz.func12, Tryz.ntmps12
  go_wp2_with fail
  (with_reducible refine (closedOf_no z s HNV.out _ HT.out).mono ?_)
  rintro e w1 ⟨rfl, hb⟩
  have HB1 := hid (HB.out.trans (hb.mono HB.out.size))
  have HK1 := hid (HK.out.below hb HK.out.lt)
  have hz1 : w.heap.size + 1 + 1 ≤ w1.heap.size := by have := hb.size; have := hz.out; omega
  have HB2 := hid (below_setRow (HB1.out.alloc HB1.out.size (.cells (netV 0 fun _ _ => 0) 53)) HB1.out.size (netV 0 fun _ _ => 0))
  have HK2 := hid (show Nk ((w1.alloc (.cells (netV 0 fun _ _ => 0) 53)).setRow w1.heap.size (netV 0 fun _ _ => 0)) (w.heap.size + 1) 0 ⟨#[]⟩ from by
    unfold Nk World.setRow
    rw [Array.getElem?_modify, if_neg (by omega)]
    exact (Below.heap_alloc w1 _ _ HK1.out.lt).trans HK1.out)
  clear hb
  go_upto_region 2 with (first | refine al_net rfl rfl ?_ | refine st_net rfl _ _ rfl rfl rfl (NB.made w1 0 fun _ _ => 0) ?_)
  generalize (w1.alloc (.cells (netV 0 fun _ _ => 0) 53)).setRow w1.heap.size (netV 0 fun _ _ => 0) = w2 at *
  have r0 := HK2.out.c0
  have r1 := HK2.out.c1
  have rf0 := HK2.out.fr 0
  have rf1 := HK2.out.fr 1
  go_wp2_with fail
  refine bodyPost_ret (by simp [results, Tryz.results12, go_sem, *]; try rfl) rfl ?_
  exact ⟨rfl, (HB2.out.setCell (p := ⟨w.heap.size + 1, 0, none⟩) (by simp) _).setCell (p := ⟨w.heap.size + 1, 1, none⟩) (by simp) _⟩
set_option maxHeartbeats 1000000 in
theorem iCloseNet_yes (n : Nat) (R : Nat → Nat → Nat) (hR : OkR n R) (w : World) (hT : TB w) :
    Calls Tryz.prog 12 #[.agg #[.int .i64 n, .string (netS n R)]] w fun e w' => e = .returned (.tuple #[.agg #[.int .i64 n, .string (netS n (cloR n R))], .bool true]) ∧ Below w.heap.size w w' := by
  have HN0 := hid (closedOf_yes n R hR)
  have HE := hid (net_any n hR.le (cloR n R) (cloR_ok hR).lt)
  clear hR
  generalize netS n R = s at *
  have HK := hid (show Nk ((w.alloc (.cells #[.int .i64 n, .string s] 25)).alloc (.cells #[.int .i64 0, .string ⟨#[]⟩] 25)) (w.heap.size + 1) 0 ⟨#[]⟩ by
    have h := Nk.made (w.alloc (.cells #[.int .i64 n, .string s] 25)) 0 ⟨#[]⟩
    rw [World.size_alloc] at h
    exact h)
  have HB := hid (((Below.refl w.heap.size w).alloc (Nat.le_refl _) (.cells #[.int .i64 n, .string s] 25)).alloc (by simp) (.cells #[.int .i64 0, .string ⟨#[]⟩] 25))
  have hz : Hid (((w.alloc (.cells #[.int .i64 n, .string s] 25)).alloc (.cells #[.int .i64 0, .string ⟨#[]⟩] 25)).heap.size = w.heap.size + 1 + 1) := hid (by rw [World.size_alloc, World.size_alloc])
  have HT := hid (hT.below HB.out)
  clear hT
  have HS := AllLt.start w; go_enter Tryz.func12, Tryz.ntmps12
  go_wp2_with fail
  (with_reducible refine (HN0.out _ HT.out).mono ?_)
  rintro e w1 ⟨⟨v, rfl⟩, hb⟩
  have HB1 := hid (HB.out.trans (hb.mono HB.out.size))
  have HK1 := hid (HK.out.below hb HK.out.lt)
  have hz1 : w.heap.size + 1 + 1 ≤ w1.heap.size := by have := hb.size; have := hz.out; omega
  have HB2 := hid (below_setRow (HB1.out.alloc HB1.out.size (.cells (netV 0 fun _ _ => 0) 53)) HB1.out.size (netV n (cloR n R)))
  have HK2 := hid (show Nk ((w1.alloc (.cells (netV 0 fun _ _ => 0) 53)).setRow w1.heap.size (netV n (cloR n R))) (w.heap.size + 1) 0 ⟨#[]⟩ from by
    unfold Nk World.setRow
    rw [Array.getElem?_modify, if_neg (by omega)]
    exact (Below.heap_alloc w1 _ _ HK1.out.lt).trans HK1.out)
  have HN2 := hid ((NB.made w1 0 fun _ _ => 0).row n (cloR n R))
  clear hb
  go_upto_region 2 with (first | refine al_net rfl rfl ?_ | refine st_net rfl _ _ rfl rfl rfl (NB.made w1 0 fun _ _ => 0) ?_)
  generalize (w1.alloc (.cells (netV 0 fun _ _ => 0) 53)).setRow w1.heap.size (netV n (cloR n R)) = w2 at *
  go_wp2_with (refine ld_net rfl _ rfl rfl HN2.out ?_)
  (with_reducible refine (HE.out _).mono ?_)
  rintro e w4 ⟨rfl, hb⟩
  have hk := HK2.out.below hb HK2.out.lt
  have HB4 := hid (HB2.out.trans (hb.mono HB2.out.size))
  have r0 := hk.c0
  have r1 := hk.c1
  have rf0 := hk.fr 0
  have rf1 := hk.fr 1
  clear hk hb
  go_wp2_with fail
  refine bodyPost_ret (by simp [results, Tryz.results12, go_sem, *]; try rfl) rfl ?_
  exact ⟨rfl, (HB4.out.setCell (p := ⟨w.heap.size + 1, 0, none⟩) (by simp) _).setCell (p := ⟨w.heap.size + 1, 1, none⟩) (by simp) _⟩
end
section
open Go.RowKit
set_option linter.unusedVariables false
set_option linter.unusedSimpArgs false
def lenOf : Value → Nat
  | .slice _ n _ => n
  | _ => 0
theorem strL_len (nt : List Nt) : (strL nt).length = nt.length * 1 := by simp [strL]
theorem strL_one (nt : List Nt) : ∀ u ∈ strL nt, u.oneCell' = true := by
  intro u hu
  obtain ⟨x, _, rfl⟩ := List.mem_map.1 hu
  rfl
theorem own_som {w : World} {b T sz n m : Nat} {a : Option Addr} {c : Nat} {xs : List Value} (h : w.ownsRow b T sz (.slice a m c) n xs) (hn : ¬ n = 0) : ∃ g, a = some ⟨g, 0, none⟩ ∧ b ≤ g := by
  rcases h.2 with ⟨_, h0⟩ | ⟨g, cap, cur, e, hB, _⟩
  · exact absurd h0 hn
  · injection e with e1
    exact ⟨g, e1, hB⟩
theorem tk_own {w : World} {x b sz m k c g : Nat} {z : Int} {v : Value} {xs : List Value} (h : Tk w x z v) (ho : w.ownsRow b 3 sz (.slice (some ⟨g, 0, none⟩) m c) k xs) : g ≠ x := by
  intro e
  rcases ho.2 with ⟨hv, _⟩ | ⟨g', cap, cur, hv, _, hg, _⟩
  · cases hv
  · cases hv
    subst e
    unfold Tk at h
    rw [h] at hg
    injection hg with hg
    injection hg with _ h2
    exact absurd h2 (by decide)
set_option maxHeartbeats 8000000 in
set_option maxRecDepth 100000 in
theorem l6Close_nn (o n nn : Nat) (hnn : nn = n * n) (R : Nat → Nat → Nat) (hR : OkR n R) (g cap b0 : Nat) (w : World) (hC : TC w o) (ho : o < w.heap.size) (hO : w.ownsRow b0 3 1 (.slice (some ⟨g, 0, none⟩) nn cap) nn (rowL (fl n R) nn)) :
    Calls Tryz.prog 18 #[.slice (some ⟨o, 0, none⟩) 169 169, .agg #[.int .i64 n, .slice (some ⟨g, 0, none⟩) nn cap]] w fun e w' => (∃ g' cap' b v, e = .returned (.tuple #[.agg #[.int .i64 n, .slice (some ⟨g', 0, none⟩) nn cap'], v]) ∧ w'.ownsRow b 3 1 (.slice (some ⟨g', 0, none⟩) nn cap') nn (rowL (fl n (cloR n R)) nn) ∧ w'.ownsRow w.heap.size 9 1 v (cloN n R).length (strL (cloN n R))) ∧ Below w.heap.size w w' := by
  obtain ⟨i0, hi0, hz0, hz1, hz2⟩ := info_parts strInfo
  have hgl := (hO.lt g rfl).2
  have HOK := hid hR
  have HNN := hid hnn
  have HP0 := hid (show PS w (((w.alloc (.cells #[.int .i64 (n : Int), .slice (some ⟨g, 0, none⟩) nn cap] 38)).alloc (.cells #[.int .i64 0, .slice none 0 0] 38)).alloc (.cells #[] 9)) n nn (R, []) (.slice (some ⟨w.heap.size + 1 + 1, 0, none⟩) 0 0) from by
    refine ⟨⟨g, cap, b0, ((Tk.made w n (.slice (some ⟨g, 0, none⟩) nn cap)).alloc _).alloc _, by omega, by omega, ((hO.alloc _).alloc _).alloc _⟩, ?_, ?_, (((Below.refl _ _).alloc (Nat.le_refl _) _).alloc (by simp) _).alloc (by simp; omega) _, by rw [World.size_alloc, World.size_alloc, World.size_alloc]; omega⟩
    · have h := World.ownsRow_made (base := w.heap.size + 1 + 1) (e := 9) (size := 1) ((w.alloc (.cells #[.int .i64 (n : Int), .slice (some ⟨g, 0, none⟩) nn cap] 38)).alloc (.cells #[.int .i64 0, .slice none 0 0] 38)) #[] 0 (by rw [World.size_alloc, World.size_alloc]; omega) (by decide) rfl
      rw [World.size_alloc, World.size_alloc] at h
      exact h
    · have h := Tk.made (w.alloc (.cells #[.int .i64 (n : Int), .slice (some ⟨g, 0, none⟩) nn cap] 38)) 0 (.slice none 0 0)
      rw [World.size_alloc] at h
      exact h.alloc _)
  have HMU := hid (mu_bd hR)
  have HC := hid hC
  clear hC hO hR hnn
  have HS := AllLt.start w; go_enter Tryz.func18, Tryz.ntmps18
  go_wp2_with fail
  go_loopw [6] (fun v wr => ∃ t : Nat, Hid (PS w wr n nn (itr n (R, []) t) v)) (fun v _ => 122865 - lenOf v)
  case atStart => exact ⟨0, HP0⟩
  case round =>
    obtain ⟨t, HP⟩ := hrel
    try clear HS
    clear HP0
    obtain ⟨wi, rfl⟩ : ∃ wi : World, wi = wr := ⟨_, rfl⟩
    have HOKs := hid (itr_ok (s := (R, [])) HOK.out t)
    have HNX := hid (show itr n (R, []) (t + 1) = ((passL n ((itr n (R, []) t).1, []) (edL n)).1, (itr n (R, []) t).2 ++ (passL n ((itr n (R, []) t).1, []) (edL n)).2) by
      have h := passL_app n (itr n (R, []) t).2 (edL n) (itr n (R, []) t).1 []
      rw [List.append_nil] at h; exact h)
    have HMX := hid (show (itr n (R, []) (t + 1)).2.length ≤ 122865 by
      have h1 : _ + _ ≤ 0 + mu n R := itr_mu (n := n) (R, []) (t + 1)
      have h2 := HMU.out
      omega)
    have HCL := hid (show (passL n ((itr n (R, []) t).1, []) (edL n)).2.length = 0 → (itr n (R, []) t).1 = cloR n R ∧ (itr n (R, []) t).2 = cloN n R from fun h => Cl.is ⟨⟨t, rfl⟩, (passL_quiet (s := ((itr n (R, []) t).1, [])) h).2⟩)
    generalize itr n (R, []) (t + 1) = s' at HNX HMX
    generalize hs : itr n (R, []) t = s at *
    have HIT : Hid (s' = itr n (R, []) (t + 1)) := hid (by
      rw [HNX.out]
      show _ = passL n (itr n (R, []) t) (edL n)
      rw [hs]
      have h := passL_app n s.2 (edL n) s.1 []
      rw [List.append_nil] at h; exact h.symm)
    clear hs
    obtain ⟨gt, capt, bt, HT, hg1, hg2, HO⟩ := HP.out.tk
    have t0 := HT.c0
    have t1 := HT.c1
    obtain ⟨av, cv, rfl⟩ := own_slc HP.out.nts
    have HLP := hid (l6Pass_nn o n nn HNN.out s.1 HOKs.out gt capt bt wi (fun x hx => (HP.out.bel.cell (p := ⟨o, x, none⟩) ho).trans (HC.out x hx)) (Nat.lt_of_lt_of_le ho HP.out.bel.size) HO)
    clear HT HO
    go_wp2_with fail
    (with_reducible refine HLP.out.mono ?_)
    rintro e w1 ⟨⟨g', cap', b', v', rfl, hown, hnt⟩, hb⟩
    obtain ⟨ca, cc, rfl⟩ := own_slc hnt
    clear HLP t0 t1
    generalize passL n (s.1, []) (edL n) = q at *
    obtain ⟨R3, ch⟩ := q
    have HP1 := hid (HP.out.below hb)
    have HBy := hid ((Below.refl w1.heap.size w1).alloc (Nat.le_refl _) (.cells #[.int .i64 (n : Int), .slice (some ⟨g', 0, none⟩) nn cap'] 38))
    have HP2 := hid (HP1.out.below HBy.out)
    have HY := hid (Tk.made w1 (n : Int) (.slice (some ⟨g', 0, none⟩) nn cap'))
    have HO2 := hid (own_below' hown HBy.out)
    have HN2 := hid (own_below' hnt HBy.out)
    have hny : Hid (∀ k, (Value.slice av s.2.length cv).ownBlock = some k → k < w1.heap.size) := hid (fun k hk => (HP1.out.nts.lt k hk).2)
    have hAy : w.heap.size + 1 + 1 + 1 ≤ w1.heap.size := HP1.out.siz
    clear hb hown hnt HP HP1
    go_upto_region 3 with fail
    generalize w1.alloc (.cells #[.int .i64 (n : Int), .slice (some ⟨g', 0, none⟩) nn cap'] 38) = w2 at *
    generalize w1.heap.size = y at *
    obtain ⟨gu, cu, bu, HTu, hu1, hu2, HOu⟩ := HP2.out.tk
    by_cases hch : ch.length = 0
    · have hdz : ((ch.length : Int) == 0) = true := by rw [hch]; rfl
      obtain ⟨e1, e2⟩ := HCL.out hch
      have t0 := HTu.c0
      have t1 := HTu.c1
      have r0 := HP2.out.res.c0
      have r1 := HP2.out.res.c1
      have rf0 := HP2.out.res.fr 0
      have rf1 := HP2.out.res.fr 1
      have HX1 := hid (own_far (own_far HOu (p := ⟨w.heap.size + 1, 0, none⟩) hu2 (.int .i64 (n : Int))) (p := ⟨w.heap.size + 1, 1, none⟩) hu2 (.slice (some ⟨gu, 0, none⟩) nn cu))
      have HX2 := hid (own_base (own_set (own_set HP2.out.nts (p := ⟨w.heap.size + 1, 0, none⟩) (show w.heap.size + 1 < w.heap.size + 1 + 1 by omega) (.int .i64 (n : Int))) (p := ⟨w.heap.size + 1, 1, none⟩) (show w.heap.size + 1 < w.heap.size + 1 + 1 by omega) (.slice (some ⟨gu, 0, none⟩) nn cu)) (show w.heap.size ≤ w.heap.size + 1 + 1 by omega))
      have HBE := hid ((HP2.out.bel.setCell (p := ⟨w.heap.size + 1, 0, none⟩) (show w.heap.size ≤ w.heap.size + 1 by omega) (.int .i64 (n : Int))).setCell (p := ⟨w.heap.size + 1, 1, none⟩) (show w.heap.size ≤ w.heap.size + 1 by omega) (.slice (some ⟨gu, 0, none⟩) nn cu))
      have HE1 := hid e1
      have HE2 := hid e2
      clear HTu HOu e1 e2
      go_wp2_with fail
      refine bodyPost_ret (by simp [results, Tryz.results18, go_sem, *]; try rfl) rfl ?_
      exact ⟨⟨gu, cu, bu, _, rfl, by rw [← HE1.out]; exact HX1.out, by rw [← HE2.out]; exact HX2.out⟩, HBE.out⟩
    · have hdz : ((ch.length : Int) == 0) = false := by rw [beq_eq_false_iff_ne]; omega
      obtain ⟨cg, rfl, hcg⟩ := own_som HN2.out hch
      have hln : s.2.length + ch.length ≤ 122865 := by
        have h := HMX.out
        rw [HNX.out] at h
        have h : (s.2 ++ ch).length ≤ 122865 := h
        rw [List.length_append] at h
        exact h
      clear HTu HOu
      go_wp2_with (at_builtin; go_loud (refine wpList_append_own _ rfl _ _ 39 rfl (w.heap.size + 1 + 1) 9 i0 _ 1 16 Tryz.underlying39 hi0 hz0 hz1 hz2 rfl (by decide) _ _ _ rfl HP2.out.nts ⟨cg, 0, none⟩ ch.length cc (strL ch) rfl (strL_len ch) (HN2.out.cells rfl) (strL_one ch) ?c3 ?c4 ?c5 ?_))
      case c3 => show s.2.length + ch.length ≤ maxLen; unfold maxLen; omega
      case c4 => show (s.2.length + ch.length) * 16 ≤ 140737488355328; omega
      case c5 => have := HP2.out.siz; omega
      intro v7 w7 hown7 hgrow _
      have hyl := HY.out.lt
      have hnl := HP2.out.nts.lt
      have HA7 : Hid (∃ g7 c7, Tk w7 w.heap.size n (.slice (some ⟨g7, 0, none⟩) nn c7)) := hid (by
        obtain ⟨gx, cx, bx, h1, _⟩ := HP2.out.tk
        exact ⟨gx, cx, (hgrow.block _ h1.lt (fun e => by have := (hnl _ e.symm).1; omega)).trans h1⟩)
      have HR7 : Hid (Tk w7 (w.heap.size + 1) 0 (.slice none 0 0)) := hid ((hgrow.block _ HP2.out.res.lt (fun e => by have := (hnl _ e.symm).1; omega)).trans HP2.out.res)
      have HY7 : Hid (Tk w7 y n (.slice (some ⟨g', 0, none⟩) nn cap')) := hid ((hgrow.block _ hyl (fun e => by have := hny.out _ e.symm; omega)).trans HY.out)
      have HO7 := hid (HO2.out.kept hgrow (.inr (own_diff HO2.out HP2.out.nts (by decide))))
      have HB7 := hid (HP2.out.bel.grown hgrow (by have := HP2.out.bel.size; omega) (fun j hj => by have := (hnl j hj).1; omega))
      have HZ7 : w.heap.size + 1 + 1 + 1 ≤ w7.heap.size := Nat.le_trans HP2.out.siz hgrow.size
      have HN7 : Hid (w7.ownsRow (w.heap.size + 1 + 1) 9 1 v7 (s.2 ++ ch).length (strL (s.2 ++ ch))) := hid (by
        rw [List.length_append, show strL (s.2 ++ ch) = strL s.2 ++ strL ch by simp [strL]]
        exact hown7)
      obtain ⟨g7, c7, HT7⟩ := HA7.out
      have hgA := tk_own HT7 HO7.out
      have hgR := tk_own HR7.out HO7.out
      have t0 := HT7.c0
      have t1 := HT7.c1
      have tf0 := HT7.fr 0
      have tf1 := HT7.fr 1
      have y0 := HY7.out.c0
      have y1 := HY7.out.c1
      have hAy2 : ¬ w.heap.size = y := by omega
      have HP8 := hid (show PS w ((w7.setCell ⟨w.heap.size, 0, none⟩ (.int .i64 (n : Int))).setCell ⟨w.heap.size, 1, none⟩ (.slice (some ⟨g', 0, none⟩) nn cap')) n nn s' v7 from by
        rw [HNX.out]
        exact ⟨⟨g', cap', b', HT7.set0.set1 _, hgA, hgR, own_far (own_far HO7.out (p := ⟨w.heap.size, 0, none⟩) hgA _) (p := ⟨w.heap.size, 1, none⟩) hgA _⟩, own_set (own_set HN7.out (p := ⟨w.heap.size, 0, none⟩) (show w.heap.size < w.heap.size + 1 + 1 by omega) _) (p := ⟨w.heap.size, 1, none⟩) (show w.heap.size < w.heap.size + 1 + 1 by omega) _, (HR7.out.far (p := ⟨w.heap.size, 0, none⟩) (show w.heap.size + 1 ≠ w.heap.size by omega) _).far (p := ⟨w.heap.size, 1, none⟩) (show w.heap.size + 1 ≠ w.heap.size by omega) _, (HB7.out.setCell (p := ⟨w.heap.size, 0, none⟩) (Nat.le_refl _) _).setCell (p := ⟨w.heap.size, 1, none⟩) (Nat.le_refl _) _, by simpa using HZ7⟩)
      obtain ⟨a7, k7, hv7⟩ := own_slc HN7.out
      have hm7 : lenOf v7 = s.2.length + ch.length := by rw [hv7, ← List.length_append]; rfl
      clear hown7 hgrow HT7 hv7
      go_wp2_with fail
      go_roundw
      case rel => exact ⟨t + 1, by rw [← HIT.out]; exact HP8⟩
      case measure => rw [hm7]; show 122865 - (s.2.length + ch.length) < 122865 - s.2.length; omega
theorem l6Close_any (o n : Nat) (R : Nat → Nat → Nat) (hR : OkR n R) (g cap b0 : Nat) (w : World) (hC : TC w o) (ho : o < w.heap.size) (hO : w.ownsRow b0 3 1 (.slice (some ⟨g, 0, none⟩) (n * n) cap) (n * n) (rowL (fl n R) (n * n))) :
    Calls Tryz.prog 18 #[.slice (some ⟨o, 0, none⟩) 169 169, .agg #[.int .i64 n, .slice (some ⟨g, 0, none⟩) (n * n) cap]] w fun e w' => (∃ g' cap' b v, e = .returned (.tuple #[.agg #[.int .i64 n, .slice (some ⟨g', 0, none⟩) (n * n) cap'], v]) ∧ w'.ownsRow b 3 1 (.slice (some ⟨g', 0, none⟩) (n * n) cap') (n * n) (rowL (fl n (cloR n R)) (n * n)) ∧ w'.ownsRow w.heap.size 9 1 v (cloN n R).length (strL (cloN n R))) ∧ Below w.heap.size w w' :=
  l6Close_nn o n (n * n) rfl R hR g cap b0 w hC ho hO
end
section
open Go.RowKit
set_option linter.unusedVariables false
set_option linter.unusedSimpArgs false
theorem Tk.put0 {w : World} {g : Nat} {z : Int} {v : Value} (h : Tk w g z v) (z' : Int) : Tk (w.setCell ⟨g, 0, none⟩ (.int .i64 z')) g z' v := by
  unfold Tk
  rw [heap_setCell_same _ _ _ _ _ _ h]; rfl
set_option maxHeartbeats 1000000 in
theorem sCloseNet_no (z : Int) (s : ByteArray) (h : NV z s = false) (w : World) :
    Calls Tryz.prog 10 #[.agg #[.int .i64 z, .string s]] w fun e w' => e = .returned (.tuple #[.agg #[.int .i64 0, .string ⟨#[]⟩], .bool false]) ∧ Below w.heap.size w w' := by
  have HK := hid (show Nk ((w.alloc (.cells #[.int .i64 z, .string s] 25)).alloc (.cells #[.int .i64 0, .string ⟨#[]⟩] 25)) (w.heap.size + 1) 0 ⟨#[]⟩ by
    have h := Nk.made (w.alloc (.cells #[.int .i64 z, .string s] 25)) 0 ⟨#[]⟩
    rw [World.size_alloc] at h
    exact h)
  have HB := hid (((Below.refl w.heap.size w).alloc (Nat.le_refl _) (.cells #[.int .i64 z, .string s] 25)).alloc (by simp) (.cells #[.int .i64 0, .string ⟨#[]⟩] 25))
  have HNV := hid h
  clear h
  have HS := AllLt.start w; go_enter Tryz.func10, Tryz.ntmps10
  go_wp2_with fail
  (with_reducible refine (sNetValid_any z s _).mono ?_)
  rintro e w1 ⟨rfl, hb⟩
  rw [HNV.out]
  have HB1 := hid (HB.out.trans (hb.mono HB.out.size))
  have hk := HK.out.below hb HK.out.lt
  have r0 := hk.c0
  have r1 := hk.c1
  have rf0 := hk.fr 0
  have rf1 := hk.fr 1
  clear hk hb
  go_wp2_with fail
  refine bodyPost_ret (by simp [results, Tryz.results10, go_sem, *]; try rfl) rfl ?_
  exact ⟨rfl, (HB1.out.setCell (p := ⟨w.heap.size + 1, 0, none⟩) (by simp) _).setCell (p := ⟨w.heap.size + 1, 1, none⟩) (by simp) _⟩
set_option maxHeartbeats 8000000 in
set_option maxRecDepth 100000 in
theorem sCloseNet_yes (n : Nat) (R : Nat → Nat → Nat) (hR : OkR n R) (w : World) :
    Calls Tryz.prog 10 #[.agg #[.int .i64 n, .string (netS n R)]] w fun e w' => e = .returned (.tuple #[.agg #[.int .i64 n, .string (netS n (cloR n R))], .bool true]) ∧ Below w.heap.size w w' := by
  have HNV := hid (nv_net hR)
  have HOP := hid (l5Open_any n hR.le R hR.lt)
  have HOK := hid hR
  have h36 : n * n ≤ 36 := Nat.mul_le_mul hR.le hR.le
  have hpos : 0 < n * n := Nat.mul_pos hR.pos hR.pos
  have HCT := hid (show catB (fl n (cloR n R)) (n * n) = netS n (cloR n R) from catB_net n (cloR n R))
  have HLT := hid (cloR_ok hR).lt
  clear hR
  generalize netS n (cloR n R) = t at *
  generalize netS n R = s at *
  have HK := hid (show Nk ((w.alloc (.cells #[.int .i64 n, .string s] 25)).alloc (.cells #[.int .i64 0, .string ⟨#[]⟩] 25)) (w.heap.size + 1) 0 ⟨#[]⟩ by
    have h := Nk.made (w.alloc (.cells #[.int .i64 n, .string s] 25)) 0 ⟨#[]⟩
    rw [World.size_alloc] at h
    exact h)
  have HKs := hid (nk_alloc (Nk.made w n s) (.cells #[.int .i64 0, .string ⟨#[]⟩] 25))
  have HB := hid (((Below.refl w.heap.size w).alloc (Nat.le_refl _) (.cells #[.int .i64 n, .string s] 25)).alloc (by simp) (.cells #[.int .i64 0, .string ⟨#[]⟩] 25))
  have hz : Hid (((w.alloc (.cells #[.int .i64 n, .string s] 25)).alloc (.cells #[.int .i64 0, .string ⟨#[]⟩] 25)).heap.size = w.heap.size + 1 + 1) := hid (by rw [World.size_alloc, World.size_alloc])
  have HS := AllLt.start w; have hn2 := lt2; have hn3 := lt3; have hn4 := lt4; go_enter Tryz.func10, Tryz.ntmps10
  go_wp2_with fail
  (with_reducible refine (sNetValid_any n s _).mono ?_)
  rintro e w1 ⟨rfl, hb⟩
  rw [HNV.out]
  have HB1 := hid (HB.out.trans (hb.mono HB.out.size))
  have HK1 := hid (HK.out.below hb HK.out.lt)
  have hks := HKs.out.below hb HKs.out.lt
  have hz1 : w.heap.size + 1 + 1 ≤ w1.heap.size := by have := hb.size; have := hz.out; omega
  have hl : w.heap.size < w1.heap.size := by omega
  have q0 := hks.c0
  have q1 := hks.c1
  clear hks hb HS
  have HS := AllLt.start w1
  go_upto_region 3 with fail
  go_cut [4] (fun s4 wx => ∃ x g cap b : Nat, s4 = .pointer (some ⟨x, 0, none⟩) ∧ Tk wx x n (.slice (some ⟨g, 0, none⟩) (n * n) cap) ∧ wx.ownsRow b 3 1 (.slice (some ⟨g, 0, none⟩) (n * n) cap) (n * n) (rowL (fl n (cloR n R)) (n * n)) ∧ Below w1.heap.size w1 wx)
  case first =>
    go_region_held3 (fun wx => wx.cell? ⟨w.heap.size, 0, none⟩ = some (.int .i64 (n : Int)) ∧ wx.cell? ⟨w.heap.size, 1, none⟩ = some (.string s)) (first | exact ⟨q0, q1⟩ | exact ⟨(Below.cell (B := w1.heap.size) (w := w1) (p := ⟨w.heap.size, 0, none⟩) (by go_grown) hl).trans q0, (Below.cell (B := w1.heap.size) (w := w1) (p := ⟨w.heap.size, 1, none⟩) (by go_grown) hl).trans q1⟩)
      (first
        | (go_at_call 19; (with_reducible refine (l3Table_any _).mono ?_); rintro e w' ⟨⟨o, rfl, ho, htab⟩, hb⟩; have HOW := hid (own_below' HOW.out hb); have HTB := hid htab; (first | have HXB := hid (HXB.out.below hb HXB.out.lt) | have HXB := hid ((Tk.made _ 0 (.slice none 0 0)).below hb (Tk.made _ _ _).lt) | have HXB := hid ((show Tk (w1.alloc (.cells #[.int .i64 0, .slice none 0 0] 38)).drew w1.heap.size 0 (.slice none 0 0) from Tk.made w1 0 _).below hb (Tk.made w1 0 (.slice none 0 0)).lt) | skip); clear htab ho; obtain ⟨HB, hz0, hz, hc, hf⟩ := bst (w0 := w1) (by go_grown) hb; clear hb; (try simp at hz); (first | ((refine HS.g5 (m := w'.heap.size) ?_ ?_); (focus omega); intro HS) | ((refine HS.g4 (m := w'.heap.size) ?_ ?_); (focus omega); intro HS) | ((refine HS.g3 (m := w'.heap.size) ?_ ?_); (focus omega); intro HS) | ((refine HS.g2 (m := w'.heap.size) ?_ ?_); (focus omega); intro HS) | ((refine HS.g1 (m := w'.heap.size) ?_ ?_); (focus omega); intro HS) | ((refine HS.g0 (m := w'.heap.size) ?_ ?_); (focus omega); intro HS)); have HU := HS; simp only [AllLt] at HU)
        | (go_at_call 19; (with_reducible refine (l3Table_any _).mono ?_); rintro e w' ⟨⟨o, rfl, ho, htab⟩, hb⟩; have HOW := hid (own_below' (HOW.out.alloc _) hb); have HTB := hid htab; (first | have HXB := hid (HXB.out.below hb HXB.out.lt) | have HXB := hid ((Tk.made _ 0 (.slice none 0 0)).below hb (Tk.made _ _ _).lt) | have HXB := hid ((show Tk (w1.alloc (.cells #[.int .i64 0, .slice none 0 0] 38)).drew w1.heap.size 0 (.slice none 0 0) from Tk.made w1 0 _).below hb (Tk.made w1 0 (.slice none 0 0)).lt) | skip); clear htab ho; obtain ⟨HB, hz0, hz, hc, hf⟩ := bst (w0 := w1) (by go_grown) hb; clear hb; (try simp at hz); (first | ((refine HS.g5 (m := w'.heap.size) ?_ ?_); (focus omega); intro HS) | ((refine HS.g4 (m := w'.heap.size) ?_ ?_); (focus omega); intro HS) | ((refine HS.g3 (m := w'.heap.size) ?_ ?_); (focus omega); intro HS) | ((refine HS.g2 (m := w'.heap.size) ?_ ?_); (focus omega); intro HS) | ((refine HS.g1 (m := w'.heap.size) ?_ ?_); (focus omega); intro HS) | ((refine HS.g0 (m := w'.heap.size) ?_ ?_); (focus omega); intro HS)); have HU := HS; simp only [AllLt] at HU)
        | (go_at_call 19; (with_reducible refine (l3Table_any _).mono ?_); rintro e w' ⟨⟨o, rfl, ho, htab⟩, hb⟩; have HTB := hid htab; (first | have HXB := hid (HXB.out.below hb HXB.out.lt) | have HXB := hid ((Tk.made _ 0 (.slice none 0 0)).below hb (Tk.made _ _ _).lt) | have HXB := hid ((show Tk (w1.alloc (.cells #[.int .i64 0, .slice none 0 0] 38)).drew w1.heap.size 0 (.slice none 0 0) from Tk.made w1 0 _).below hb (Tk.made w1 0 (.slice none 0 0)).lt) | skip); clear htab ho; obtain ⟨HB, hz0, hz, hc, hf⟩ := bst (w0 := w1) (by go_grown) hb; clear hb; (try simp at hz); (first | ((refine HS.g5 (m := w'.heap.size) ?_ ?_); (focus omega); intro HS) | ((refine HS.g4 (m := w'.heap.size) ?_ ?_); (focus omega); intro HS) | ((refine HS.g3 (m := w'.heap.size) ?_ ?_); (focus omega); intro HS) | ((refine HS.g2 (m := w'.heap.size) ?_ ?_); (focus omega); intro HS) | ((refine HS.g1 (m := w'.heap.size) ?_ ?_); (focus omega); intro HS) | ((refine HS.g0 (m := w'.heap.size) ?_ ?_); (focus omega); intro HS)); have HU := HS; simp only [AllLt] at HU)
        | (go_at_call 20; (with_reducible refine (HOP.out _).mono ?_); rintro e w' ⟨⟨u, he, hown⟩, hb⟩; obtain ⟨g, cap, rfl, hg1, hg2⟩ := hown.form hpos; subst he; have HTB := hid (HTB.out.below hb); have HOW := hid hown; (first | have HXB := hid (HXB.out.below hb HXB.out.lt) | have HXB := hid ((Tk.made _ 0 (.slice none 0 0)).below hb (Tk.made _ _ _).lt) | have HXB := hid ((show Tk (w1.alloc (.cells #[.int .i64 0, .slice none 0 0] 38)).drew w1.heap.size 0 (.slice none 0 0) from Tk.made w1 0 _).below hb (Tk.made w1 0 (.slice none 0 0)).lt) | skip); clear hown hg1 hg2; obtain ⟨HB, hz0, hz, hc, hf⟩ := bst (w0 := w1) (by go_grown) hb; clear hb; (try simp at hz); (first | ((refine HS.g5 (m := w'.heap.size) ?_ ?_); (focus omega); intro HS) | ((refine HS.g4 (m := w'.heap.size) ?_ ?_); (focus omega); intro HS) | ((refine HS.g3 (m := w'.heap.size) ?_ ?_); (focus omega); intro HS) | ((refine HS.g2 (m := w'.heap.size) ?_ ?_); (focus omega); intro HS) | ((refine HS.g1 (m := w'.heap.size) ?_ ?_); (focus omega); intro HS) | ((refine HS.g0 (m := w'.heap.size) ?_ ?_); (focus omega); intro HS)); have HU := HS; simp only [AllLt] at HU)
        | (go_at_call 20; (with_reducible refine (HOP.out _).mono ?_); rintro e w' ⟨⟨u, he, hown⟩, hb⟩; obtain ⟨g, cap, rfl, hg1, hg2⟩ := hown.form hpos; subst he; have HTB := hid ((HTB.out.below ((Below.refl _ _).alloc (Nat.le_refl _) _)).below hb); have HOW := hid hown; (first | have HXB := hid (HXB.out.below hb HXB.out.lt) | have HXB := hid ((Tk.made _ 0 (.slice none 0 0)).below hb (Tk.made _ _ _).lt) | have HXB := hid ((show Tk (w1.alloc (.cells #[.int .i64 0, .slice none 0 0] 38)).drew w1.heap.size 0 (.slice none 0 0) from Tk.made w1 0 _).below hb (Tk.made w1 0 (.slice none 0 0)).lt) | skip); clear hown hg1 hg2; obtain ⟨HB, hz0, hz, hc, hf⟩ := bst (w0 := w1) (by go_grown) hb; clear hb; (try simp at hz); (first | ((refine HS.g5 (m := w'.heap.size) ?_ ?_); (focus omega); intro HS) | ((refine HS.g4 (m := w'.heap.size) ?_ ?_); (focus omega); intro HS) | ((refine HS.g3 (m := w'.heap.size) ?_ ?_); (focus omega); intro HS) | ((refine HS.g2 (m := w'.heap.size) ?_ ?_); (focus omega); intro HS) | ((refine HS.g1 (m := w'.heap.size) ?_ ?_); (focus omega); intro HS) | ((refine HS.g0 (m := w'.heap.size) ?_ ?_); (focus omega); intro HS)); have HU := HS; simp only [AllLt] at HU)
        | (go_at_call 20; (with_reducible refine (HOP.out _).mono ?_); rintro e w' ⟨⟨u, he, hown⟩, hb⟩; obtain ⟨g, cap, rfl, hg1, hg2⟩ := hown.form hpos; subst he; have HOW := hid hown; (first | have HXB := hid (HXB.out.below hb HXB.out.lt) | have HXB := hid ((Tk.made _ 0 (.slice none 0 0)).below hb (Tk.made _ _ _).lt) | have HXB := hid ((show Tk (w1.alloc (.cells #[.int .i64 0, .slice none 0 0] 38)).drew w1.heap.size 0 (.slice none 0 0) from Tk.made w1 0 _).below hb (Tk.made w1 0 (.slice none 0 0)).lt) | skip); clear hown hg1 hg2; obtain ⟨HB, hz0, hz, hc, hf⟩ := bst (w0 := w1) (by go_grown) hb; clear hb; (try simp at hz); (first | ((refine HS.g5 (m := w'.heap.size) ?_ ?_); (focus omega); intro HS) | ((refine HS.g4 (m := w'.heap.size) ?_ ?_); (focus omega); intro HS) | ((refine HS.g3 (m := w'.heap.size) ?_ ?_); (focus omega); intro HS) | ((refine HS.g2 (m := w'.heap.size) ?_ ?_); (focus omega); intro HS) | ((refine HS.g1 (m := w'.heap.size) ?_ ?_); (focus omega); intro HS) | ((refine HS.g0 (m := w'.heap.size) ?_ ?_); (focus omega); intro HS)); have HU := HS; simp only [AllLt] at HU)
        | (go_at_call 18; (with_reducible refine (l6Close_any o n R HOK.out g cap _ _ (TC.of HTB.out) HTB.out.lt HOW.out).mono ?_); rintro e w' ⟨⟨g', cap', b', v, rfl, hown, hnt⟩, hb⟩; obtain ⟨av, cv, rfl⟩ := own_slice hnt; have HOC := hid hown; (first | have HXB := hid (HXB.out.below hb HXB.out.lt) | have HXB := hid ((Tk.made _ 0 (.slice none 0 0)).below hb (Tk.made _ _ _).lt) | have HXB := hid ((show Tk (w1.alloc (.cells #[.int .i64 0, .slice none 0 0] 38)).drew w1.heap.size 0 (.slice none 0 0) from Tk.made w1 0 _).below hb (Tk.made w1 0 (.slice none 0 0)).lt) | skip); clear hown hnt; obtain ⟨HB, hz0, hz, hc, hf⟩ := bst (w0 := w1) (by go_grown) hb; clear hb; (try simp at hz); (first | ((refine HS.g5 (m := w'.heap.size) ?_ ?_); (focus omega); intro HS) | ((refine HS.g4 (m := w'.heap.size) ?_ ?_); (focus omega); intro HS) | ((refine HS.g3 (m := w'.heap.size) ?_ ?_); (focus omega); intro HS) | ((refine HS.g2 (m := w'.heap.size) ?_ ?_); (focus omega); intro HS) | ((refine HS.g1 (m := w'.heap.size) ?_ ?_); (focus omega); intro HS) | ((refine HS.g0 (m := w'.heap.size) ?_ ?_); (focus omega); intro HS)); have HU := HS; simp only [AllLt] at HU)
        | (go_at_call 18; (with_reducible refine (l6Close_any o n R HOK.out g cap _ _ (TC.of (HTB.out.below ((Below.refl _ _).alloc (Nat.le_refl _) _))) (HTB.out.below ((Below.refl _ _).alloc (Nat.le_refl _) _)).lt (HOW.out.alloc _)).mono ?_); rintro e w' ⟨⟨g', cap', b', v, rfl, hown, hnt⟩, hb⟩; obtain ⟨av, cv, rfl⟩ := own_slice hnt; have HOC := hid hown; (first | have HXB := hid (HXB.out.below hb HXB.out.lt) | have HXB := hid ((Tk.made _ 0 (.slice none 0 0)).below hb (Tk.made _ _ _).lt) | have HXB := hid ((show Tk (w1.alloc (.cells #[.int .i64 0, .slice none 0 0] 38)).drew w1.heap.size 0 (.slice none 0 0) from Tk.made w1 0 _).below hb (Tk.made w1 0 (.slice none 0 0)).lt) | skip); clear hown hnt; obtain ⟨HB, hz0, hz, hc, hf⟩ := bst (w0 := w1) (by go_grown) hb; clear hb; (try simp at hz); (first | ((refine HS.g5 (m := w'.heap.size) ?_ ?_); (focus omega); intro HS) | ((refine HS.g4 (m := w'.heap.size) ?_ ?_); (focus omega); intro HS) | ((refine HS.g3 (m := w'.heap.size) ?_ ?_); (focus omega); intro HS) | ((refine HS.g2 (m := w'.heap.size) ?_ ?_); (focus omega); intro HS) | ((refine HS.g1 (m := w'.heap.size) ?_ ?_); (focus omega); intro HS) | ((refine HS.g0 (m := w'.heap.size) ?_ ?_); (focus omega); intro HS)); have HU := HS; simp only [AllLt] at HU)
        | fail)
    all_goals
      go_wp2_with fail
      go_meet
      first
        | exact ⟨_, _, _, _, rfl, Tk.made _ _ _, HOC.out.alloc _, by (repeat' (first | (with_reducible exact Below.refl _ _) | (with_reducible refine Below.setCell ?_ ?_ _) | (with_reducible refine below_drewN' ?_ _) | (with_reducible refine below_drew' ?_) | (with_reducible refine Below.alloc ?_ ?_ _) | (with_reducible assumption) | go_size))⟩
        | exact ⟨_, _, _, _, rfl, (HXB.out.put0 _).set1 _, own_far (own_far HOC.out (tk_own HXB.out HOC.out) _) (tk_own HXB.out HOC.out) _, by (repeat' (first | (with_reducible exact Below.refl _ _) | (with_reducible refine Below.setCell ?_ ?_ _) | (with_reducible refine below_drewN' ?_ _) | (with_reducible refine below_drew' ?_) | (with_reducible refine Below.alloc ?_ ?_ _) | (with_reducible assumption) | go_size))⟩
        | fail
  case rest =>
    obtain ⟨x, g, cap, b, rfl, HTx, HOx, HBx⟩ := hcut
    rename_i wc
    have t0 := HTx.c0
    have t1 := HTx.c1
    have HK3 := hid (HK1.out.below HBx HK1.out.lt)
    have HB3 := hid (HB1.out.trans (HBx.mono HB1.out.size))
    have HCL := hid (l5Close_any n _ (n * n) h36 (fl n (cloR n R)) (fun x _ => HLT.out _ _) wc (ts_fl HOx))
    clear HTx HOx HBx HS q0 q1
    go_wp2_with fail
    (with_reducible refine HCL.out.mono ?_)
    rintro e w4 ⟨rfl, hb⟩
    rw [HCT.out]
    have hk := HK3.out.below hb HK3.out.lt
    have HB4 := hid (HB3.out.trans (hb.mono HB3.out.size))
    have r0 := hk.c0
    have r1 := hk.c1
    have rf0 := hk.fr 0
    have rf1 := hk.fr 1
    clear hk hb
    go_wp2_with fail
    refine bodyPost_ret (by simp [results, Tryz.results10, go_sem, *]; try rfl) rfl ?_
    exact ⟨rfl, (HB4.out.setCell (p := ⟨w.heap.size + 1, 0, none⟩) (by simp) _).setCell (p := ⟨w.heap.size + 1, 1, none⟩) (by simp) _⟩
end
end
section
open Go.RowKit
set_option linter.unusedVariables false
set_option linter.unusedSimpArgs false
set_option maxHeartbeats 1000000 in
theorem iAddRel_off (z : Int) (s : ByteArray) (i k r : Int) (h : ∀ w : World, TB w → Calls Tryz.prog 11 #[.agg #[.int .i64 z, .string s], .int .i64 i, .int .i64 k, .int .i64 r] w fun e w' => e = .returned (.tuple #[.agg #[.int .i64 0, .string ⟨#[]⟩], .bool false]) ∧ Below w.heap.size w w') (w : World) (hT : TB w) :
    Calls Tryz.prog 7 #[.agg #[.int .i64 z, .string s], .int .i64 i, .int .i64 k, .int .i64 r] w fun e w' => e = .returned (.tuple #[.agg #[.int .i64 0, .string ⟨#[]⟩], .bool false]) ∧ Below w.heap.size w w' := by
  have HC := hid h
  clear h
  have HK := hid (show Nk ((w.alloc (.cells #[.int .i64 z, .string s] 25)).alloc (.cells #[.int .i64 0, .string ⟨#[]⟩] 25)) (w.heap.size + 1) 0 ⟨#[]⟩ by
    have h := Nk.made (w.alloc (.cells #[.int .i64 z, .string s] 25)) 0 ⟨#[]⟩
    rw [World.size_alloc] at h
    exact h)
  have HB := hid (((Below.refl w.heap.size w).alloc (Nat.le_refl _) (.cells #[.int .i64 z, .string s] 25)).alloc (by simp) (.cells #[.int .i64 0, .string ⟨#[]⟩] 25))
  have HT0 := hid hT
  have HT := hid (hT.below HB.out)
  clear hT
  have HS := AllLt.start w; go_enter Tryz.func7, Tryz.ntmps7
  go_wp2_with fail
  (with_reducible refine (HC.out _ HT.out).mono ?_)
  rintro e w1 ⟨rfl, hb⟩
  have HK1 := hid (nk_alloc (HK.out.below hb HK.out.lt) (.cells #[.int .i64 0, .string ⟨#[]⟩] 25))
  have HB1 := hid ((HB.out.trans (hb.mono HB.out.size)).alloc (Nat.le_trans HB.out.size hb.size) (.cells #[.int .i64 0, .string ⟨#[]⟩] 25))
  clear hb
  go_upto_region 2 with fail
  generalize w1.alloc (.cells #[.int .i64 0, .string ⟨#[]⟩] 25) = w2 at *
  have r0 := HK1.out.c0
  have r1 := HK1.out.c1
  have rf0 := HK1.out.fr 0
  have rf1 := HK1.out.fr 1
  go_wp2_with fail
  refine bodyPost_ret (by simp [results, Tryz.results7, go_sem, *]; try rfl) rfl ?_
  exact ⟨rfl, (HB1.out.setCell (p := ⟨w.heap.size + 1, 0, none⟩) (by simp) _).setCell (p := ⟨w.heap.size + 1, 1, none⟩) (by simp) _⟩
set_option maxHeartbeats 1000000 in
theorem iAddRel_on (n : Nat) (R : Nat → Nat → Nat) (hR : OkR n R) (i k r : Nat) (hi : i < n) (hk : k < n) (hne : i ≠ k) (hr : r < 8192) (w : World) (hT : TB w) :
    Calls Tryz.prog 7 #[.agg #[.int .i64 n, .string (netS n R)], .int .i64 i, .int .i64 k, .int .i64 r] w fun e w' => e = .returned (.tuple #[.agg #[.int .i64 n, .string (netS n (cloR n (putR R i k (R i k &&& r))))], .bool true]) ∧ Below w.heap.size w w' := by
  have h := iLimitRel_on n R hR i k r hi hk hne hr
  have HC := hid h
  have HX := hid (iCloseNet_yes n (putR R i k (R i k &&& r)) (putR_ok hR hi hk hne (and_lt (hR.lt i k))))
  clear hR h hne
  generalize netS n (cloR n (putR R i k (R i k &&& r))) = u at *
  generalize netS n (putR R i k (R i k &&& r)) = t at *
  generalize netS n R = s at *
  have HK := hid (show Nk ((w.alloc (.cells #[.int .i64 (n : Int), .string s] 25)).alloc (.cells #[.int .i64 0, .string ⟨#[]⟩] 25)) (w.heap.size + 1) 0 ⟨#[]⟩ by
    have h := Nk.made (w.alloc (.cells #[.int .i64 (n : Int), .string s] 25)) 0 ⟨#[]⟩
    rw [World.size_alloc] at h
    exact h)
  have HB := hid (((Below.refl w.heap.size w).alloc (Nat.le_refl _) (.cells #[.int .i64 (n : Int), .string s] 25)).alloc (by simp) (.cells #[.int .i64 0, .string ⟨#[]⟩] 25))
  have HT0 := hid hT
  have HT := hid (hT.below HB.out)
  clear hT
  have HS := AllLt.start w; go_enter Tryz.func7, Tryz.ntmps7
  go_wp2_with fail
  (with_reducible refine (HC.out _ HT.out).mono ?_)
  rintro e w1 ⟨rfl, hb⟩
  have HK1 := hid (nk_alloc (HK.out.below hb HK.out.lt) (.cells #[.int .i64 (n : Int), .string t] 25))
  have HB1 := hid ((HB.out.trans (hb.mono HB.out.size)).alloc (Nat.le_trans HB.out.size hb.size) (.cells #[.int .i64 (n : Int), .string t] 25))
  have HL := hid (Nk.made w1 n t)
  clear hb
  go_upto_region 2 with fail
  generalize w1.alloc (.cells #[.int .i64 (n : Int), .string t] 25) = w2 at *
  have l0 := HL.out.c0
  have l1 := HL.out.c1
  go_wp2_with fail
  (with_reducible refine (HX.out _ (HT0.out.below HB1.out)).mono ?_)
  rintro e w3 ⟨rfl, hb⟩
  have HK3 := hid (HK1.out.below hb HK1.out.lt)
  have HB3 := hid (HB1.out.trans (hb.mono HB1.out.size))
  clear hb l0 l1
  have r0 := HK3.out.c0
  have r1 := HK3.out.c1
  have rf0 := HK3.out.fr 0
  have rf1 := HK3.out.fr 1
  go_wp2_with fail
  refine bodyPost_ret (by simp [results, Tryz.results7, go_sem, *]; try rfl) rfl ?_
  exact ⟨rfl, (HB3.out.setCell (p := ⟨w.heap.size + 1, 0, none⟩) (by simp) _).setCell (p := ⟨w.heap.size + 1, 1, none⟩) (by simp) _⟩
set_option maxHeartbeats 1000000 in
theorem sAddRel_off (z : Int) (s : ByteArray) (i k r : Int) (h : ∀ w : World, Calls Tryz.prog 9 #[.agg #[.int .i64 z, .string s], .int .i64 i, .int .i64 k, .int .i64 r] w fun e w' => e = .returned (.tuple #[.agg #[.int .i64 0, .string ⟨#[]⟩], .bool false]) ∧ Below w.heap.size w w') (w : World) :
    Calls Tryz.prog 5 #[.agg #[.int .i64 z, .string s], .int .i64 i, .int .i64 k, .int .i64 r] w fun e w' => e = .returned (.tuple #[.agg #[.int .i64 0, .string ⟨#[]⟩], .bool false]) ∧ Below w.heap.size w w' := by
  have HC := hid h
  clear h
  have HK := hid (show Nk ((w.alloc (.cells #[.int .i64 z, .string s] 25)).alloc (.cells #[.int .i64 0, .string ⟨#[]⟩] 25)) (w.heap.size + 1) 0 ⟨#[]⟩ by
    have h := Nk.made (w.alloc (.cells #[.int .i64 z, .string s] 25)) 0 ⟨#[]⟩
    rw [World.size_alloc] at h
    exact h)
  have HB := hid (((Below.refl w.heap.size w).alloc (Nat.le_refl _) (.cells #[.int .i64 z, .string s] 25)).alloc (by simp) (.cells #[.int .i64 0, .string ⟨#[]⟩] 25))
  have HS := AllLt.start w; go_enter Tryz.func5, Tryz.ntmps5
  go_wp2_with fail
  (with_reducible refine (HC.out _).mono ?_)
  rintro e w1 ⟨rfl, hb⟩
  have HK1 := hid (nk_alloc (HK.out.below hb HK.out.lt) (.cells #[.int .i64 0, .string ⟨#[]⟩] 25))
  have HB1 := hid ((HB.out.trans (hb.mono HB.out.size)).alloc (Nat.le_trans HB.out.size hb.size) (.cells #[.int .i64 0, .string ⟨#[]⟩] 25))
  clear hb
  go_upto_region 2 with fail
  generalize w1.alloc (.cells #[.int .i64 0, .string ⟨#[]⟩] 25) = w2 at *
  have r0 := HK1.out.c0
  have r1 := HK1.out.c1
  have rf0 := HK1.out.fr 0
  have rf1 := HK1.out.fr 1
  go_wp2_with fail
  refine bodyPost_ret (by simp [results, Tryz.results5, go_sem, *]; try rfl) rfl ?_
  exact ⟨rfl, (HB1.out.setCell (p := ⟨w.heap.size + 1, 0, none⟩) (by simp) _).setCell (p := ⟨w.heap.size + 1, 1, none⟩) (by simp) _⟩
set_option maxHeartbeats 1000000 in
theorem sAddRel_on (n : Nat) (R : Nat → Nat → Nat) (hR : OkR n R) (i k r : Nat) (hi : i < n) (hk : k < n) (hne : i ≠ k) (hr : r < 8192) (w : World) :
    Calls Tryz.prog 5 #[.agg #[.int .i64 n, .string (netS n R)], .int .i64 i, .int .i64 k, .int .i64 r] w fun e w' => e = .returned (.tuple #[.agg #[.int .i64 n, .string (netS n (cloR n (putR R i k (R i k &&& r))))], .bool true]) ∧ Below w.heap.size w w' := by
  have h := sLimitRel_on n R hR i k r hi hk hne hr
  rw [Nat.and_comm r (R i k)] at h
  have HC := hid h
  have HX := hid (sCloseNet_yes n (putR R i k (R i k &&& r)) (putR_ok hR hi hk hne (and_lt (hR.lt i k))))
  clear hR h hne
  generalize netS n (cloR n (putR R i k (R i k &&& r))) = u at *
  generalize netS n (putR R i k (R i k &&& r)) = t at *
  generalize netS n R = s at *
  have HK := hid (show Nk ((w.alloc (.cells #[.int .i64 (n : Int), .string s] 25)).alloc (.cells #[.int .i64 0, .string ⟨#[]⟩] 25)) (w.heap.size + 1) 0 ⟨#[]⟩ by
    have h := Nk.made (w.alloc (.cells #[.int .i64 (n : Int), .string s] 25)) 0 ⟨#[]⟩
    rw [World.size_alloc] at h
    exact h)
  have HB := hid (((Below.refl w.heap.size w).alloc (Nat.le_refl _) (.cells #[.int .i64 (n : Int), .string s] 25)).alloc (by simp) (.cells #[.int .i64 0, .string ⟨#[]⟩] 25))
  have HS := AllLt.start w; go_enter Tryz.func5, Tryz.ntmps5
  go_wp2_with fail
  (with_reducible refine (HC.out _).mono ?_)
  rintro e w1 ⟨rfl, hb⟩
  have HK1 := hid (nk_alloc (HK.out.below hb HK.out.lt) (.cells #[.int .i64 (n : Int), .string t] 25))
  have HB1 := hid ((HB.out.trans (hb.mono HB.out.size)).alloc (Nat.le_trans HB.out.size hb.size) (.cells #[.int .i64 (n : Int), .string t] 25))
  have HL := hid (Nk.made w1 n t)
  clear hb
  go_upto_region 2 with fail
  generalize w1.alloc (.cells #[.int .i64 (n : Int), .string t] 25) = w2 at *
  have l0 := HL.out.c0
  have l1 := HL.out.c1
  go_wp2_with fail
  (with_reducible refine (HX.out _).mono ?_)
  rintro e w3 ⟨rfl, hb⟩
  have HK3 := hid (HK1.out.below hb HK1.out.lt)
  have HB3 := hid (HB1.out.trans (hb.mono HB1.out.size))
  clear hb l0 l1
  have r0 := HK3.out.c0
  have r1 := HK3.out.c1
  have rf0 := HK3.out.fr 0
  have rf1 := HK3.out.fr 1
  go_wp2_with fail
  refine bodyPost_ret (by simp [results, Tryz.results5, go_sem, *]; try rfl) rfl ?_
  exact ⟨rfl, (HB3.out.setCell (p := ⟨w.heap.size + 1, 0, none⟩) (by simp) _).setCell (p := ⟨w.heap.size + 1, 1, none⟩) (by simp) _⟩
set_option maxHeartbeats 1000000 in
theorem lawOff_AddRel (a00 : Int) (a01 : ByteArray) (a1 a2 a3 : Int) (w : World) (hs : a01.size ≤ 1048576) (hB : TB w)
    (hm : ∀ w : World, Calls Tryz.prog 5 #[.agg #[.int .i64 a00, .string a01], .int .i64 a1, .int .i64 a2, .int .i64 a3] w fun e w' => e = .returned (.tuple #[.agg #[.int .i64 0, .string ⟨#[]⟩], .bool false]) ∧ Below w.heap.size w w')
    (hi : ∀ w : World, TB w → Calls Tryz.prog 7 #[.agg #[.int .i64 a00, .string a01], .int .i64 a1, .int .i64 a2, .int .i64 a3] w fun e w' => e = .returned (.tuple #[.agg #[.int .i64 0, .string ⟨#[]⟩], .bool false]) ∧ Below w.heap.size w w') :
    Calls Tryz.prog 3 #[.agg #[.int .i64 a00, .string a01], .int .i64 a1, .int .i64 a2, .int .i64 a3] w fun e w' => e = .returned (.bool true) ∧ Below w.heap.size w w' := by
  have HT := hid hB
  have HM := hid hm
  have HI := hid hi
  have h0 : decide ((1048576 : Int) - (a01.size : Int) < 0) = false := by simp; omega
  have h1 : decide ((1048576 : Int) < (a01.size : Int)) = false := by simp; omega
  have HSZ := hid (szNet_on a00 a01 hs)
  clear hm hi hB hs
  have HS := AllLt.start w; have hn2 := lt2; have hn3 := lt3; have hn4 := lt4; go_enter Tryz.func3, Tryz.ntmps3
  go_wp2_with (first | (go_at_call 4; (with_reducible refine (HSZ.out _).mono ?_); rintro e w' ⟨rfl, hb⟩; obtain ⟨HB, hz0, hz, hc, hf⟩ := bst (w0 := w) (by go_grown) hb; clear hb; (try simp at hz); (first | ((refine HS.g5 (m := w'.heap.size) ?_ ?_); (focus omega); intro HS) | ((refine HS.g4 (m := w'.heap.size) ?_ ?_); (focus omega); intro HS) | ((refine HS.g3 (m := w'.heap.size) ?_ ?_); (focus omega); intro HS) | ((refine HS.g2 (m := w'.heap.size) ?_ ?_); (focus omega); intro HS) | ((refine HS.g1 (m := w'.heap.size) ?_ ?_); (focus omega); intro HS) | ((refine HS.g0 (m := w'.heap.size) ?_ ?_); (focus omega); intro HS)); have HU := HS; simp only [AllLt] at HU) | (go_at_call 6; (with_reducible refine (toNet_any _ _ _).mono ?_); rintro e w' ⟨rfl, hb⟩; obtain ⟨HB, hz0, hz, hc, hf⟩ := bst (w0 := w) (by go_grown) hb; clear hb; (try simp at hz); (first | ((refine HS.g5 (m := w'.heap.size) ?_ ?_); (focus omega); intro HS) | ((refine HS.g4 (m := w'.heap.size) ?_ ?_); (focus omega); intro HS) | ((refine HS.g3 (m := w'.heap.size) ?_ ?_); (focus omega); intro HS) | ((refine HS.g2 (m := w'.heap.size) ?_ ?_); (focus omega); intro HS) | ((refine HS.g1 (m := w'.heap.size) ?_ ?_); (focus omega); intro HS) | ((refine HS.g0 (m := w'.heap.size) ?_ ?_); (focus omega); intro HS)); have HU := HS; simp only [AllLt] at HU) | (go_at_call 5; (with_reducible refine (HM.out _).mono ?_); rintro e w' ⟨rfl, hb⟩; obtain ⟨HB, hz0, hz, hc, hf⟩ := bst (w0 := w) (by go_grown) hb; clear hb; (try simp at hz); (first | ((refine HS.g5 (m := w'.heap.size) ?_ ?_); (focus omega); intro HS) | ((refine HS.g4 (m := w'.heap.size) ?_ ?_); (focus omega); intro HS) | ((refine HS.g3 (m := w'.heap.size) ?_ ?_); (focus omega); intro HS) | ((refine HS.g2 (m := w'.heap.size) ?_ ?_); (focus omega); intro HS) | ((refine HS.g1 (m := w'.heap.size) ?_ ?_); (focus omega); intro HS) | ((refine HS.g0 (m := w'.heap.size) ?_ ?_); (focus omega); intro HS)); have HU := HS; simp only [AllLt] at HU) | (go_at_call 7; (with_reducible refine (HI.out _ (HT.out.below (by go_grown))).mono ?_); rintro e w' ⟨rfl, hb⟩; obtain ⟨HB, hz0, hz, hc, hf⟩ := bst (w0 := w) (by go_grown) hb; clear hb; (try simp at hz); (first | ((refine HS.g5 (m := w'.heap.size) ?_ ?_); (focus omega); intro HS) | ((refine HS.g4 (m := w'.heap.size) ?_ ?_); (focus omega); intro HS) | ((refine HS.g3 (m := w'.heap.size) ?_ ?_); (focus omega); intro HS) | ((refine HS.g2 (m := w'.heap.size) ?_ ?_); (focus omega); intro HS) | ((refine HS.g1 (m := w'.heap.size) ?_ ?_); (focus omega); intro HS) | ((refine HS.g0 (m := w'.heap.size) ?_ ?_); (focus omega); intro HS)); have HU := HS; simp only [AllLt] at HU) | (go_at_call 8; (with_reducible refine (eqNet_same _ _ _).mono ?_); rintro e w' ⟨rfl, hb⟩; obtain ⟨HB, hz0, hz, hc, hf⟩ := bst (w0 := w) (by go_grown) hb; clear hb; (try simp at hz); (first | ((refine HS.g5 (m := w'.heap.size) ?_ ?_); (focus omega); intro HS) | ((refine HS.g4 (m := w'.heap.size) ?_ ?_); (focus omega); intro HS) | ((refine HS.g3 (m := w'.heap.size) ?_ ?_); (focus omega); intro HS) | ((refine HS.g2 (m := w'.heap.size) ?_ ?_); (focus omega); intro HS) | ((refine HS.g1 (m := w'.heap.size) ?_ ?_); (focus omega); intro HS) | ((refine HS.g0 (m := w'.heap.size) ?_ ?_); (focus omega); intro HS)); have HU := HS; simp only [AllLt] at HU))
  go_ret
  exact ⟨rfl, by (repeat' (first | (with_reducible exact Below.refl _ _) | (with_reducible refine Below.setCell ?_ ?_ _) | (with_reducible refine below_drewN' ?_ _) | (with_reducible refine below_drew' ?_) | (with_reducible refine Below.alloc ?_ ?_ _) | (with_reducible assumption) | go_size))⟩
set_option maxHeartbeats 1000000 in
theorem lawOn_AddRel (n : Nat) (R : Nat → Nat → Nat) (hR : OkR n R) (i k r : Nat) (hi : i < n) (hk : k < n) (hne : i ≠ k) (hr : r < 8192) (w : World) (hs : (netS n R).size ≤ 1048576) (hB : TB w) :
    Calls Tryz.prog 3 #[.agg #[.int .i64 n, .string (netS n R)], .int .i64 i, .int .i64 k, .int .i64 r] w fun e w' => e = .returned (.bool true) ∧ Below w.heap.size w w' := by
  have HT := hid hB
  have HM := hid (sAddRel_on n R hR i k r hi hk hne hr)
  have HI := hid (iAddRel_on n R hR i k r hi hk hne hr)
  have h0 : decide ((1048576 : Int) - ((netS n R).size : Int) < 0) = false := by simp; omega
  have h1 : decide ((1048576 : Int) < ((netS n R).size : Int)) = false := by simp; omega
  have HSZ := hid (szNet_on n (netS n R) hs)
  clear hB hs hR
  generalize netS n (cloR n (putR R i k (R i k &&& r))) = t at *
  generalize netS n R = s at *
  have HS := AllLt.start w; have hn2 := lt2; have hn3 := lt3; have hn4 := lt4; go_enter Tryz.func3, Tryz.ntmps3
  go_wp2_with (first | (go_at_call 4; (with_reducible refine (HSZ.out _).mono ?_); rintro e w' ⟨rfl, hb⟩; obtain ⟨HB, hz0, hz, hc, hf⟩ := bst (w0 := w) (by go_grown) hb; clear hb; (try simp at hz); (first | ((refine HS.g5 (m := w'.heap.size) ?_ ?_); (focus omega); intro HS) | ((refine HS.g4 (m := w'.heap.size) ?_ ?_); (focus omega); intro HS) | ((refine HS.g3 (m := w'.heap.size) ?_ ?_); (focus omega); intro HS) | ((refine HS.g2 (m := w'.heap.size) ?_ ?_); (focus omega); intro HS) | ((refine HS.g1 (m := w'.heap.size) ?_ ?_); (focus omega); intro HS) | ((refine HS.g0 (m := w'.heap.size) ?_ ?_); (focus omega); intro HS)); have HU := HS; simp only [AllLt] at HU) | (go_at_call 6; (with_reducible refine (toNet_any _ _ _).mono ?_); rintro e w' ⟨rfl, hb⟩; obtain ⟨HB, hz0, hz, hc, hf⟩ := bst (w0 := w) (by go_grown) hb; clear hb; (try simp at hz); (first | ((refine HS.g5 (m := w'.heap.size) ?_ ?_); (focus omega); intro HS) | ((refine HS.g4 (m := w'.heap.size) ?_ ?_); (focus omega); intro HS) | ((refine HS.g3 (m := w'.heap.size) ?_ ?_); (focus omega); intro HS) | ((refine HS.g2 (m := w'.heap.size) ?_ ?_); (focus omega); intro HS) | ((refine HS.g1 (m := w'.heap.size) ?_ ?_); (focus omega); intro HS) | ((refine HS.g0 (m := w'.heap.size) ?_ ?_); (focus omega); intro HS)); have HU := HS; simp only [AllLt] at HU) | (go_at_call 5; (with_reducible refine (HM.out _).mono ?_); rintro e w' ⟨rfl, hb⟩; obtain ⟨HB, hz0, hz, hc, hf⟩ := bst (w0 := w) (by go_grown) hb; clear hb; (try simp at hz); (first | ((refine HS.g5 (m := w'.heap.size) ?_ ?_); (focus omega); intro HS) | ((refine HS.g4 (m := w'.heap.size) ?_ ?_); (focus omega); intro HS) | ((refine HS.g3 (m := w'.heap.size) ?_ ?_); (focus omega); intro HS) | ((refine HS.g2 (m := w'.heap.size) ?_ ?_); (focus omega); intro HS) | ((refine HS.g1 (m := w'.heap.size) ?_ ?_); (focus omega); intro HS) | ((refine HS.g0 (m := w'.heap.size) ?_ ?_); (focus omega); intro HS)); have HU := HS; simp only [AllLt] at HU) | (go_at_call 7; (with_reducible refine (HI.out _ (HT.out.below (by go_grown))).mono ?_); rintro e w' ⟨rfl, hb⟩; obtain ⟨HB, hz0, hz, hc, hf⟩ := bst (w0 := w) (by go_grown) hb; clear hb; (try simp at hz); (first | ((refine HS.g5 (m := w'.heap.size) ?_ ?_); (focus omega); intro HS) | ((refine HS.g4 (m := w'.heap.size) ?_ ?_); (focus omega); intro HS) | ((refine HS.g3 (m := w'.heap.size) ?_ ?_); (focus omega); intro HS) | ((refine HS.g2 (m := w'.heap.size) ?_ ?_); (focus omega); intro HS) | ((refine HS.g1 (m := w'.heap.size) ?_ ?_); (focus omega); intro HS) | ((refine HS.g0 (m := w'.heap.size) ?_ ?_); (focus omega); intro HS)); have HU := HS; simp only [AllLt] at HU) | (go_at_call 8; (with_reducible refine (eqNet_same _ _ _).mono ?_); rintro e w' ⟨rfl, hb⟩; obtain ⟨HB, hz0, hz, hc, hf⟩ := bst (w0 := w) (by go_grown) hb; clear hb; (try simp at hz); (first | ((refine HS.g5 (m := w'.heap.size) ?_ ?_); (focus omega); intro HS) | ((refine HS.g4 (m := w'.heap.size) ?_ ?_); (focus omega); intro HS) | ((refine HS.g3 (m := w'.heap.size) ?_ ?_); (focus omega); intro HS) | ((refine HS.g2 (m := w'.heap.size) ?_ ?_); (focus omega); intro HS) | ((refine HS.g1 (m := w'.heap.size) ?_ ?_); (focus omega); intro HS) | ((refine HS.g0 (m := w'.heap.size) ?_ ?_); (focus omega); intro HS)); have HU := HS; simp only [AllLt] at HU))
  go_ret
  exact ⟨rfl, by (repeat' (first | (with_reducible exact Below.refl _ _) | (with_reducible refine Below.setCell ?_ ?_ _) | (with_reducible refine below_drewN' ?_ _) | (with_reducible refine below_drew' ?_) | (with_reducible refine Below.alloc ?_ ?_ _) | (with_reducible assumption) | go_size))⟩
set_option maxHeartbeats 1000000 in
theorem walk_FnExactAddRel (a00 : Int) (a01 : ByteArray) (a1 a2 a3 : Int) (w : World) (w00 : (Lit.int .i64 a00).wf = true) (w01 : a01.size ≤ maxLen) (w1 : (Lit.int .i64 a1).wf = true) (w2 : (Lit.int .i64 a2).wf = true) (w3 : (Lit.int .i64 a3).wf = true) (hB : TB w) :
    Calls Tryz.prog 3 #[.agg #[.int .i64 a00, .string a01], .int .i64 a1, .int .i64 a2, .int .i64 a3] w fun e w' => e = .returned (.bool true) ∧ Below w.heap.size w w' := by
  clear w00 w1 w2 w3
  by_cases hs : a01.size ≤ 1048576
  · rcases nv_cases a00 a01 with h | ⟨n, R, hR, rfl, rfl⟩
    · exact lawOff_AddRel a00 a01 a1 a2 a3 w hs hB (sAddRel_off _ _ _ _ _ (sLimitRel_nod a00 a01 a1 a2 a3 (by simp [nodB, h]))) (iAddRel_off _ _ _ _ _ (iLimitRel_off a00 a01 a1 a2 a3 (netWith_no a00 a01 h a1 a2 a3)))
    · rcases hasB_cases n a1 with h1 | ⟨i, hi, rfl⟩
      · exact lawOff_AddRel n (netS n R) a1 a2 a3 w hs hB (sAddRel_off _ _ _ _ _ (sLimitRel_nod n (netS n R) a1 a2 a3 (by simp [nodB, h1]))) (iAddRel_off _ _ _ _ _ (iLimitRel_off n (netS n R) a1 a2 a3 (netWith_dif n R hR a1 a2 a3 (by simp [difB, h1]))))
      · rcases hasB_cases n a2 with h2 | ⟨k, hk, rfl⟩
        · exact lawOff_AddRel n (netS n R) i a2 a3 w hs hB (sAddRel_off _ _ _ _ _ (sLimitRel_nod n (netS n R) i a2 a3 (by simp [nodB, h2]))) (iAddRel_off _ _ _ _ _ (iLimitRel_off n (netS n R) i a2 a3 (netWith_dif n R hR i a2 a3 (by simp [difB, h2]))))
        · have hnod : nodB n (netS n R) i k = true := by simp [nodB, hasB_in hi, hasB_in hk, nv_net hR]
          by_cases e : i = k
          · exact lawOff_AddRel n (netS n R) i k a3 w hs hB (sAddRel_off _ _ _ _ _ (sLimitRel_eq n (netS n R) i k a3 hnod (by rw [e]; simp))) (iAddRel_off _ _ _ _ _ (iLimitRel_off n (netS n R) i k a3 (netWith_dif n R hR i k a3 (by simp [difB, e]))))
          · have hik : ((i : Int) == (k : Int)) = false := by rw [beq_eq_false_iff_ne]; omega
            have hki : ((k : Int) == (i : Int)) = false := by rw [beq_eq_false_iff_ne]; omega
            have hd : difB n i k = true := by simp only [difB, hasB_in hi, hasB_in hk, hki]; rfl
            cases hv : rv a3
            · exact lawOff_AddRel n (netS n R) i k a3 w hs hB (sAddRel_off _ _ _ _ _ (sLimitRel_rel n (netS n R) i k a3 hnod hik hv)) (iAddRel_off _ _ _ _ _ (iLimitRel_off n (netS n R) i k a3 (netWith_rel n R hR i k a3 hd hv)))
            · have hr := (rv_iff a3).1 hv
              obtain ⟨r, rfl⟩ : ∃ r : Nat, a3 = r := ⟨a3.toNat, by omega⟩
              exact lawOn_AddRel n R hR i k r hi hk e (by omega) w hs hB
  · have HT := hid hB
    clear hB
    have HS := AllLt.start w; have hn2 := lt2; have hn3 := lt3; have hn4 := lt4; go_enter Tryz.func3, Tryz.ntmps3
    go_wp2_with (first | (go_at_call 4; (with_reducible refine (szNet_off a00 a01 hs w01 _).mono ?_); rintro e w' ⟨rfl, hb⟩; obtain ⟨HB, hz0, hz, hc, hf⟩ := bst (w0 := w) (by go_grown) hb; clear hb; (try simp at hz); (first | ((refine HS.g5 (m := w'.heap.size) ?_ ?_); (focus omega); intro HS) | ((refine HS.g4 (m := w'.heap.size) ?_ ?_); (focus omega); intro HS) | ((refine HS.g3 (m := w'.heap.size) ?_ ?_); (focus omega); intro HS) | ((refine HS.g2 (m := w'.heap.size) ?_ ?_); (focus omega); intro HS) | ((refine HS.g1 (m := w'.heap.size) ?_ ?_); (focus omega); intro HS) | ((refine HS.g0 (m := w'.heap.size) ?_ ?_); (focus omega); intro HS)); have HU := HS; simp only [AllLt] at HU))
    go_ret
    exact ⟨rfl, by (repeat' (first | (with_reducible exact Below.refl _ _) | (with_reducible refine Below.setCell ?_ ?_ _) | (with_reducible refine below_drewN' ?_ _) | (with_reducible refine below_drew' ?_) | (with_reducible refine Below.alloc ?_ ?_ _) | (with_reducible assumption) | go_size))⟩
end
end Go.Proofs.YtlmmjdaipedjjaaGreatDoor.C
