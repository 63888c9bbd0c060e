/- The program reads a network. -/
import Derived.Test.YtlmmjdaipedjjaaDoorNetJs
import Derived.Test.YtlmmjdaipedjjaaDoorNetS
namespace Go.Proofs.YtlmmjdaipedjjaaDoor.C
open Go.RowKit
set_option linter.unusedVariables false
set_option linter.unusedSimpArgs false
theorem sndB_chk {n : Nat} {s : ByteArray} (hs : s.size = 4 * (n * n)) (hv : ∀ a b, a < n → b < n → rv (nb (dgs s (a * n + b))) = true) : sndB n (mx n s) = true ↔ Chk n s := by
  unfold sndB
  rw [Bool.and_eq_true, List.all_eq_true, List.all_eq_true]
  constructor
  · rintro ⟨h1, h2⟩
    exact chk_half hs hv (fun i hi => by simpa using h1 i (List.mem_range.2 hi)) fun i k hik hk => by simpa using h2 (i, k) (edL_mem.2 ⟨hik, hk⟩)
  · intro h
    exact ⟨fun i hi => by simpa using h.one i (List.mem_range.1 hi), fun p hp => by
      obtain ⟨h1, h2⟩ := edL_mem.1 hp
      simpa using h.tur p.1 p.2 (by omega) h2⟩
set_option maxHeartbeats 4000000 in
set_option maxRecDepth 100000 in
theorem networkOf_some (n : Nat) (h1 : 1 ≤ n) (h6 : n ≤ 6) (s : ByteArray) (w : World) (hT : TB w) :
    Calls Tryd.prog 44 #[.agg #[.int .i64 n, .string s]] w (NRes n s w) := by
  have HT := hid hT
  clear hT
  have hnn : (4 * (n : Int)) * (n : Int) = ((4 * (n * n) : Nat) : Int) := by push_cast; rw [Int.mul_assoc]
  have hn36 : n * n ≤ 36 := Nat.mul_le_mul h6 h6
  by_cases hsz : s.size = 4 * (n * n)
  · have HCH := hid (sndB_chk hsz)
    have HNC := hid (nv_chk (s := s) h1 h6)
    generalize hnq : n * n = nn at *
    have hszq : ((s.size : Int) != 4 * (nn : Int)) = false := by rw [hsz]; simp
    have HS4 := hid hsz
    have HNQ := hid hnq
    clear hsz hnq
    have HS := AllLt.start w; go_enter Tryd.func44, Tryd.ntmps44
    go_wp2_with (refine al_net rfl rfl ?_)
    (with_reducible refine (free_on n h1 h6 _).mono ?_)
    rintro e w1 ⟨rfl, hb⟩
    have HO := hid ((NO.start (z := n) (s := s) (hb.mono (size2 w _ _)) n (freR n)).congr (stg_start n s).symm)
    clear hb
    generalize hw2 : (w1.alloc (.cells (netV 0 fun _ _ => 0) 53)).setRow w1.heap.size (netV n (freR n)) = w2 at *
    have q0 := HO.out.a0
    have q1 := HO.out.a1
    go_wp2_with (first | refine al_net rfl rfl ?_ | (refine st_net rfl _ _ rfl rfl rfl (NB.made _ _ _) ?_; rw [hw2]))
    go_loopw [32] (fun v wr => ∃ i : Nat, i ≤ n ∧ v = .int .i64 i ∧ Hid (∀ a b, a < i → b < n → rv (nb (dgs s (a * n + b))) = true) ∧ Hid (NO w wr n s w1.heap.size n (stg n s i 0))) (fun v _ => n - (intOf v).toNat)
    case atStart => exact ⟨0, by omega, rfl, hid (fun a b ha => by omega), HO⟩
    case round =>
      obtain ⟨i, hi, rfl, HV, HN⟩ := hrel
      clear HS q0 q1 HO
      have q0 := HN.out.a0
      by_cases hin : i < n
      · have hdi : decide ((i : Int) < (n : Int)) = true := by simp; omega
        go_wp2
        clear q0
        go_loopw [37] (fun v wr => ∃ k : Nat, k ≤ n ∧ v = .int .i64 k ∧ Hid (∀ b, b < k → rv (nb (dgs s (i * n + b))) = true) ∧ Hid (NO w wr n s w1.heap.size n (stg n s i k))) (fun v _ => n - (intOf v).toNat)
        case atStart => exact ⟨0, by omega, rfl, hid (fun b hb => by omega), HN⟩
        case round =>
          obtain ⟨k, hk, rfl, HV2, HN2⟩ := hrel
          obtain ⟨wi, rfl⟩ : ∃ wi : World, wi = wr := ⟨_, rfl⟩
          have q0 := HN2.out.a0
          have q1 := HN2.out.a1
          by_cases hkn : k < n
          · have hdk : decide ((k : Int) < (n : Int)) = true := by simp; omega
            have hlt := at_lt hin hkn
            obtain ⟨x, hx⟩ : ∃ x : Nat, x = i * n := ⟨_, rfl⟩
            have hmul : (i : Int) * (n : Int) = (x : Int) := by rw [hx]; push_cast; rfl
            have hx36 : x + k < nn := by rw [hx, ← HNQ.out]; exact hlt
            have HX := hid hx
            clear hx hlt
            have i6 : i < 6 := by omega
            have k6 : k < 6 := by omega
            have hc := HN2.out.loc.cell i6 k6
            have hf := HN2.out.loc.frozen (1 + i * 6 + k)
            have hss : 4 * nn ≤ s.size := by have := HS4.out; omega
            have hsl : ∀ wx : World, (Instr.slice 9 (.string s) (some (.int .i64 (4 * ((x : Int) + (k : Int))))) (some (.int .i64 (4 * ((x : Int) + (k : Int)) + 4))) none).run Tryd.prog wx = .ok (.string (dgs s (x + k))) wx := fun wx => by have h := slice_dgs s (x + k) (by omega) wx; push_cast at h; exact h
            have b0 : (0 : Int) ≤ 4 * ((x : Int) + (k : Int)) := by omega
            have b1 : 4 * ((x : Int) + (k : Int)) ≤ 4 * ((x : Int) + (k : Int)) + 4 := by omega
            have b2 : 4 * ((x : Int) + (k : Int)) + 4 ≤ (s.size : Int) := by omega
            have hw4 : IntKind.i64.wrap (4 * ((x : Int) + (k : Int)) + 4) = 4 * ((x : Int) + (k : Int)) + 4 := IntWalk.i64_in _ (by omega)
            have HD := hid (relOfDigits_any (dgs s (x + k)) (dgs_size HS4.out hx36))
            cases hv : rv (nb (dgs s (x + k)))
            · have HV4 := hid hv
              have HR4 := hid (rdI_off hv)
              have HNO := hid ((HN2.out.set 0 i6 k6).drew)
              have HNV := hid (show NV n s = false from by
                cases e : NV n s
                · rfl
                · have := (HNC.out.1 e).val i k hin hkn
                  rw [← HX.out, hv] at this
                  cases this)
              have HRS := HNO.out.res
              clear hv
              go_wp2_with fail
              go_region_with (first | (go_at_call 81; (with_reducible refine (HD.out _).mono ?_); rintro e w' ⟨rfl, rfl⟩; rw [HR4.out, HV4.out]) | fail)
              all_goals
                go_wp2_with (first | refine bu_net rfl rfl ?_ | refine st_net rfl _ _ rfl rfl rfl HRS ?_)
                refine bodyPost_ret (res_net2 rfl _ _ _ _ _ rfl rfl (NB.row HRS _ _)) rfl ?_
                exact .no HNV.out (below_setRow HNO.out.bel (by omega) _)
            · have hmx := mx_nb hin hkn (by rw [← HX.out]; exact hv)
              rw [← HX.out] at hmx
              have HV4 := hid hv
              have HR4 := hid (rdI_on hmx.2 hmx.1).1
              have HNO := hid (((HN2.out.set (mx n s i k) i6 k6).drew).congr (stg_one s hin hkn))
              have HV3 := hid (show ∀ b, b < k + 1 → rv (nb (dgs s (i * n + b))) = true from fun b hb => by
                by_cases e : b = k
                · rw [e, ← HX.out]; exact hv
                · exact HV2.out b (by omega))
              clear hv hmx
              go_wp2_with fail
              go_region_with (first | (go_at_call 81; (with_reducible refine (HD.out _).mono ?_); rintro e w' ⟨rfl, rfl⟩; rw [HR4.out, HV4.out]) | fail)
              all_goals
                go_wp2
                go_roundw
                case rel => exact ⟨k + 1, by omega, by go_num, HV3, HNO⟩
                case measure => simp [intOf]; omega
          · obtain rfl : k = n := by omega
            have hdk : decide ((k : Int) < (k : Int)) = false := by simp
            have HV3 := hid (show ∀ a b, a < i + 1 → b < k → rv (nb (dgs s (a * k + b))) = true from fun a b ha hb => by
              by_cases e : a = i
              · rw [e]; exact HV2.out b hb
              · exact HV.out a b (by omega) hb)
            have HNO := hid (HN2.out.congr (stg_row s))
            go_wp2
            go_roundw
            case rel => exact ⟨i + 1, by omega, by go_num, HV3, HNO⟩
            case measure => simp [intOf]; omega
      · obtain rfl : i = n := by omega
        have hdi : decide ((i : Int) < (i : Int)) = false := by simp
        have HNO := hid (HN.out.congr (stg_end i s))
        have HC := hid (HCH.out HV.out)
        have hM : ∀ a b, mx i s a b < 8192 := fun a b => by
          by_cases h : a < i ∧ b < i
          · exact (mx_nb h.1 h.2 (HV.out a b h.1 h.2)).2
          · rw [mx_off h]; omega
        have HSND := hid (fun wx h => isSound_any i h6 (mx i s) hM wx h)
        have HL := HNO.out.loc
        clear hM
        go_wp2_with (refine ld_net rfl _ rfl rfl HL ?_)
        (with_reducible refine (HSND.out _ (HT.out.below HNO.out.bel)).mono ?_)
        rintro e w4 ⟨rfl, hb⟩
        have HN5 := hid (HNO.out.below hb)
        have HR5 := HN5.out.res
        have HL5 := HN5.out.loc
        cases hsd : sndB i (mx i s)
        · have HNV := hid (show NV i s = false from by
            cases e : NV i s
            · rfl
            · have := HC.out.2 (HNC.out.1 e)
              rw [hsd] at this; cases this)
          clear hb hsd HL
          go_wp2_with (first | refine bu_net rfl rfl ?_ | refine st_net rfl _ _ rfl rfl rfl HR5 ?_)
          refine bodyPost_ret (res_net2 rfl _ _ _ _ _ rfl rfl (NB.row HR5 _ _)) rfl ?_
          exact .no HNV.out (below_setRow HN5.out.bel (by omega) _)
        · have HNV := hid (HNC.out.2 (HC.out.1 hsd))
          clear hb hsd HL
          go_wp2_with (first | refine ld_net rfl _ rfl rfl HL5 ?_ | refine st_net rfl _ _ rfl rfl rfl HR5 ?_)
          refine bodyPost_ret (res_net2 rfl _ _ _ _ _ rfl rfl (NB.row HR5 _ _)) rfl ?_
          exact .yes HNV.out (below_setRow HN5.out.bel (by omega) _)
  · exact networkOf_len n h1 h6 s hsz w
end Go.Proofs.YtlmmjdaipedjjaaDoor.C
