/- Parsing the letters of a relation, in the model's words; relations with a name; the exact laws of both. -/
import Derived.Test.YtnhpjjbblegnaabDoorPrs
namespace Go.Proofs.YtnhpjjbblegnaabDoor.C
open Go.RowKit
set_option linter.unusedVariables false
set_option linter.unusedSimpArgs false
theorem fm0 : fmS 0 = ⟨#[45]⟩ := by decide +kernel
theorem prs_dash : prs ⟨#[45]⟩ = (0, true) := by decide +kernel
theorem same_dash : ((⟨#[45]⟩ : ByteArray).toList == (⟨#[45]⟩ : ByteArray).toList) = true := by simp
theorem toList_ne {s t : ByteArray} (h : ¬ s = t) : (s.toList == t.toList) = false := same_f h
set_option maxHeartbeats 2000000 in
theorem sParseRel_any (s : ByteArray) (w : World) (hs : s.size ≤ 9223372036854775806) :
    Calls Tryd.prog 66 #[.string s] w fun e w' => e = .returned (.tuple #[.int .i64 (prs s).1, .bool (prs s).2]) ∧ w = w' := by
  by_cases hd : s = ⟨#[45]⟩
  · subst hd
    have HM := hid fm0
    clear hs
    have HS := AllLt.start w; go_enter Tryd.func66, Tryd.ntmps66
    go_wp2
    refine wp_loop_rounds 1 ?_
    rw [rounds_succ]
    go_wp2_with (first | (go_at_call 61; (with_reducible refine (sFormatRel_any _ _).mono ?_); rintro e w' ⟨rfl, rfl⟩; rw [HM.out]))
    go_ret2
    exact ⟨by rw [prs_dash]; rfl, rfl⟩
  · have hdash : (s.toList == [45]) = false := by
      have := same_f hd
      rw [show (⟨#[45]⟩ : ByteArray).toList = [45] by rw [ByteArray.toList_eq]] at this
      exact this
    have HD := hid hd
    clear hd
    have HS := AllLt.start w; go_enter Tryd.func66, Tryd.ntmps66
    go_wp2
    go_loop [4, 5] (fun a b => ∃ i : Nat, i ≤ s.size ∧ b = .int .i64 i ∧ a = .int .i64 ((letS (s.data.toList.take i) : Nat) : Int)) (fun _ b => s.size - (intOf b).toNat)
    case atStart => exact ⟨0, by omega, rfl, by simp [letS_nil]⟩
    case round =>
      obtain ⟨i, hi, rfl, rfl⟩ := hrel
      clear HS
      by_cases hp : i < s.size
      · have hdi : decide ((i : Int) < (s.size : Int)) = true := by simp; omega
        rcases lix_cases ⟨#[s[i]'hp]⟩ with ⟨k, hk, he, hr⟩ | ⟨he, hr⟩
        · have HR := hid (lixI_hit hr)
          have hc : s[i]'hp = ltb k := by
            simp only [ltr, ByteArray.mk.injEq, Array.mk.injEq, List.cons.injEq, and_true] at he
            exact he
          have HF := hid ((i64_or _ _ (letS_lt (s.data.toList.take i)) (pow_lt hk)).trans (congrArg _ (show _ = letS (s.data.toList.take (i + 1)) by rw [take_snoc s i hp, hc, letS_snoc _ hk])))
          have HP := hid (sh_wrap hk)
          have hk0 : decide ((k : Int) < 0) = false := by simp
          clear hr he hc
          go_wp2_with (first | (go_at_call 122; (with_reducible refine (find_letters _ _).mono ?_); rintro e w' ⟨rfl, rfl⟩; rw [HR.out]))
          go_round
          case rel => exact ⟨i + 1, by omega, by go_num, ret_val (by first | exact HF.out | (rw [HP.out]; exact HF.out) | (rw [show min (IntKind.u64.wrap (k : Int)).toNat 64 = k from by rw [IntKind.wrap_u64]; omega, HP.out]; exact HF.out))⟩
          case measure => simp [intOf]; omega
        · have HR := hid (lixI_miss hr)
          have HB := hid (prs_bad HD.out (at_mem s i hp) (fun k hk e => he k hk (by rw [ltr, e])))
          clear hr he
          go_wp2_with (first | (go_at_call 122; (with_reducible refine (find_letters _ _).mono ?_); rintro e w' ⟨rfl, rfl⟩; rw [HR.out]))
          go_ret2
          exact ⟨by rw [HB.out]; rfl, rfl⟩
      · obtain rfl : i = s.size := by omega
        have hdi : decide ((s.size : Int) < (s.size : Int)) = false := by simp
        have HA := hid (take_all s s.size (by omega))
        by_cases h : fmS (letS s.data.toList : Nat) = s
        · have hb := same_t h
          have HP := hid (prs_hit h)
          clear h
          go_wp2_with (first | (go_at_call 61; rw [HA.out]; (with_reducible refine (sFormatRel_any _ _).mono ?_); rintro e w' ⟨rfl, rfl⟩))
          go_ret2
          exact ⟨by rw [HP.out]; rfl, rfl⟩
        · have hb := same_f h
          have HP := hid (prs_miss h)
          clear h
          go_wp2_with (first | (go_at_call 61; rw [HA.out]; (with_reducible refine (sFormatRel_any _ _).mono ?_); rintro e w' ⟨rfl, rfl⟩))
          go_ret2
          exact ⟨by rw [HP.out]; rfl, rfl⟩
/-- the names and their relations -/
def nmL : List (ByteArray × ByteArray) := [(⟨#[97, 108, 108]⟩, ⟨#[98, 109, 111, 115, 100, 102, 101, 70, 68, 83, 79, 77, 66]⟩), (⟨#[110, 111, 110, 101]⟩, ⟨#[45]⟩), (⟨#[97, 112, 97, 114, 116]⟩, ⟨#[98, 109, 77, 66]⟩), (⟨#[99, 111, 109, 109, 111, 110]⟩, ⟨#[111, 115, 100, 102, 101, 70, 68, 83, 79]⟩),
  (⟨#[119, 105, 116, 104, 105, 110]⟩, ⟨#[115, 100, 102, 101]⟩), (⟨#[98, 101, 103, 105, 110, 115]⟩, ⟨#[115, 101, 83]⟩), (⟨#[101, 110, 100, 115]⟩, ⟨#[102, 101, 70]⟩), (⟨#[101, 97, 114, 108, 105, 101, 114]⟩, ⟨#[98, 109, 111, 70, 68]⟩)]
def nmF (s : ByteArray) : List (ByteArray × ByteArray) → Int × Bool
  | [] => (0, false)
  | (n, t) :: l => if s = n then prs t else nmF s l
def nmI (s : ByteArray) : Int × Bool := nmF s nmL
theorem nm_miss {s : ByteArray} : ∀ {l : List (ByteArray × ByteArray)}, (∀ p ∈ l, ¬ s = p.1) → nmF s l = (0, false)
  | [], _ => rfl
  | (n, t) :: l, H => by
    simp only [nmF, if_neg (H _ List.mem_cons_self)]
    exact nm_miss fun q hq => H q (List.mem_cons_of_mem _ hq)
theorem nm_cases (s : ByteArray) : s = ⟨#[97, 108, 108]⟩ ∨ s = ⟨#[110, 111, 110, 101]⟩ ∨ s = ⟨#[97, 112, 97, 114, 116]⟩ ∨ s = ⟨#[99, 111, 109, 109, 111, 110]⟩ ∨ s = ⟨#[119, 105, 116, 104, 105, 110]⟩ ∨ s = ⟨#[98, 101, 103, 105, 110, 115]⟩ ∨ s = ⟨#[101, 110, 100, 115]⟩ ∨ s = ⟨#[101, 97, 114, 108, 105, 101, 114]⟩ ∨ (¬ s = ⟨#[97, 108, 108]⟩ ∧ ¬ s = ⟨#[110, 111, 110, 101]⟩ ∧ ¬ s = ⟨#[97, 112, 97, 114, 116]⟩ ∧ ¬ s = ⟨#[99, 111, 109, 109, 111, 110]⟩ ∧ ¬ s = ⟨#[119, 105, 116, 104, 105, 110]⟩ ∧ ¬ s = ⟨#[98, 101, 103, 105, 110, 115]⟩ ∧ ¬ s = ⟨#[101, 110, 100, 115]⟩ ∧ ¬ s = ⟨#[101, 97, 114, 108, 105, 101, 114]⟩ ∧ nmI s = (0, false)) := by
  by_cases h : ∃ p ∈ nmL, s = p.1
  · obtain ⟨p, hp, rfl⟩ := h
    simp only [nmL, List.mem_cons, List.not_mem_nil, or_false] at hp
    rcases hp with rfl | rfl | rfl | rfl | rfl | rfl | rfl | rfl <;> simp
  · have H : ∀ p ∈ nmL, ¬ s = p.1 := fun p hp e => h ⟨p, hp, e⟩
    have h2 : nmI s = (0, false) := nm_miss H
    simp only [nmL, List.forall_mem_cons] at H
    obtain ⟨q0, q1, q2, q3, q4, q5, q6, q7, _⟩ := H
    simp_all
def TNc : Array Value := #[.string ⟨#[97, 108, 108]⟩, .string ⟨#[98, 109, 111, 115, 100, 102, 101, 70, 68, 83, 79, 77, 66]⟩, .string ⟨#[110, 111, 110, 101]⟩, .string ⟨#[45]⟩, .string ⟨#[97, 112, 97, 114, 116]⟩, .string ⟨#[98, 109, 77, 66]⟩, .string ⟨#[99, 111, 109, 109, 111, 110]⟩, .string ⟨#[111, 115, 100, 102, 101, 70, 68, 83, 79]⟩, .string ⟨#[119, 105, 116, 104, 105, 110]⟩, .string ⟨#[115, 100, 102, 101]⟩, .string ⟨#[98, 101, 103, 105, 110, 115]⟩, .string ⟨#[115, 101, 83]⟩, .string ⟨#[101, 110, 100, 115]⟩, .string ⟨#[102, 101, 70]⟩, .string ⟨#[101, 97, 114, 108, 105, 101, 114]⟩, .string ⟨#[98, 109, 111, 70, 68]⟩]
def TN (w : World) : Prop := Tb w 0 TNc
theorem TN.below {w w' : World} (h : TN w) (hb : Below w.heap.size w w') : TN w' := Tb.below h hb (Tb.lt h)
theorem inm0 (w : World) : (Instr.index 98 (.agg #[.string ⟨#[97, 108, 108]⟩, .string ⟨#[98, 109, 111, 115, 100, 102, 101, 70, 68, 83, 79, 77, 66]⟩, .string ⟨#[110, 111, 110, 101]⟩, .string ⟨#[45]⟩, .string ⟨#[97, 112, 97, 114, 116]⟩, .string ⟨#[98, 109, 77, 66]⟩, .string ⟨#[99, 111, 109, 109, 111, 110]⟩, .string ⟨#[111, 115, 100, 102, 101, 70, 68, 83, 79]⟩, .string ⟨#[119, 105, 116, 104, 105, 110]⟩, .string ⟨#[115, 100, 102, 101]⟩, .string ⟨#[98, 101, 103, 105, 110, 115]⟩, .string ⟨#[115, 101, 83]⟩, .string ⟨#[101, 110, 100, 115]⟩, .string ⟨#[102, 101, 70]⟩, .string ⟨#[101, 97, 114, 108, 105, 101, 114]⟩, .string ⟨#[98, 109, 111, 70, 68]⟩]) (.int .i64 0)).run Tryd.prog w = .ok (.agg #[.string ⟨#[97, 108, 108]⟩, .string ⟨#[98, 109, 111, 115, 100, 102, 101, 70, 68, 83, 79, 77, 66]⟩]) w := by kernel_rfl
theorem inm1 (w : World) : (Instr.index 98 (.agg #[.string ⟨#[97, 108, 108]⟩, .string ⟨#[98, 109, 111, 115, 100, 102, 101, 70, 68, 83, 79, 77, 66]⟩, .string ⟨#[110, 111, 110, 101]⟩, .string ⟨#[45]⟩, .string ⟨#[97, 112, 97, 114, 116]⟩, .string ⟨#[98, 109, 77, 66]⟩, .string ⟨#[99, 111, 109, 109, 111, 110]⟩, .string ⟨#[111, 115, 100, 102, 101, 70, 68, 83, 79]⟩, .string ⟨#[119, 105, 116, 104, 105, 110]⟩, .string ⟨#[115, 100, 102, 101]⟩, .string ⟨#[98, 101, 103, 105, 110, 115]⟩, .string ⟨#[115, 101, 83]⟩, .string ⟨#[101, 110, 100, 115]⟩, .string ⟨#[102, 101, 70]⟩, .string ⟨#[101, 97, 114, 108, 105, 101, 114]⟩, .string ⟨#[98, 109, 111, 70, 68]⟩]) (.int .i64 1)).run Tryd.prog w = .ok (.agg #[.string ⟨#[110, 111, 110, 101]⟩, .string ⟨#[45]⟩]) w := by kernel_rfl
theorem inm2 (w : World) : (Instr.index 98 (.agg #[.string ⟨#[97, 108, 108]⟩, .string ⟨#[98, 109, 111, 115, 100, 102, 101, 70, 68, 83, 79, 77, 66]⟩, .string ⟨#[110, 111, 110, 101]⟩, .string ⟨#[45]⟩, .string ⟨#[97, 112, 97, 114, 116]⟩, .string ⟨#[98, 109, 77, 66]⟩, .string ⟨#[99, 111, 109, 109, 111, 110]⟩, .string ⟨#[111, 115, 100, 102, 101, 70, 68, 83, 79]⟩, .string ⟨#[119, 105, 116, 104, 105, 110]⟩, .string ⟨#[115, 100, 102, 101]⟩, .string ⟨#[98, 101, 103, 105, 110, 115]⟩, .string ⟨#[115, 101, 83]⟩, .string ⟨#[101, 110, 100, 115]⟩, .string ⟨#[102, 101, 70]⟩, .string ⟨#[101, 97, 114, 108, 105, 101, 114]⟩, .string ⟨#[98, 109, 111, 70, 68]⟩]) (.int .i64 2)).run Tryd.prog w = .ok (.agg #[.string ⟨#[97, 112, 97, 114, 116]⟩, .string ⟨#[98, 109, 77, 66]⟩]) w := by kernel_rfl
theorem inm3 (w : World) : (Instr.index 98 (.agg #[.string ⟨#[97, 108, 108]⟩, .string ⟨#[98, 109, 111, 115, 100, 102, 101, 70, 68, 83, 79, 77, 66]⟩, .string ⟨#[110, 111, 110, 101]⟩, .string ⟨#[45]⟩, .string ⟨#[97, 112, 97, 114, 116]⟩, .string ⟨#[98, 109, 77, 66]⟩, .string ⟨#[99, 111, 109, 109, 111, 110]⟩, .string ⟨#[111, 115, 100, 102, 101, 70, 68, 83, 79]⟩, .string ⟨#[119, 105, 116, 104, 105, 110]⟩, .string ⟨#[115, 100, 102, 101]⟩, .string ⟨#[98, 101, 103, 105, 110, 115]⟩, .string ⟨#[115, 101, 83]⟩, .string ⟨#[101, 110, 100, 115]⟩, .string ⟨#[102, 101, 70]⟩, .string ⟨#[101, 97, 114, 108, 105, 101, 114]⟩, .string ⟨#[98, 109, 111, 70, 68]⟩]) (.int .i64 3)).run Tryd.prog w = .ok (.agg #[.string ⟨#[99, 111, 109, 109, 111, 110]⟩, .string ⟨#[111, 115, 100, 102, 101, 70, 68, 83, 79]⟩]) w := by kernel_rfl
theorem inm4 (w : World) : (Instr.index 98 (.agg #[.string ⟨#[97, 108, 108]⟩, .string ⟨#[98, 109, 111, 115, 100, 102, 101, 70, 68, 83, 79, 77, 66]⟩, .string ⟨#[110, 111, 110, 101]⟩, .string ⟨#[45]⟩, .string ⟨#[97, 112, 97, 114, 116]⟩, .string ⟨#[98, 109, 77, 66]⟩, .string ⟨#[99, 111, 109, 109, 111, 110]⟩, .string ⟨#[111, 115, 100, 102, 101, 70, 68, 83, 79]⟩, .string ⟨#[119, 105, 116, 104, 105, 110]⟩, .string ⟨#[115, 100, 102, 101]⟩, .string ⟨#[98, 101, 103, 105, 110, 115]⟩, .string ⟨#[115, 101, 83]⟩, .string ⟨#[101, 110, 100, 115]⟩, .string ⟨#[102, 101, 70]⟩, .string ⟨#[101, 97, 114, 108, 105, 101, 114]⟩, .string ⟨#[98, 109, 111, 70, 68]⟩]) (.int .i64 4)).run Tryd.prog w = .ok (.agg #[.string ⟨#[119, 105, 116, 104, 105, 110]⟩, .string ⟨#[115, 100, 102, 101]⟩]) w := by kernel_rfl
theorem inm5 (w : World) : (Instr.index 98 (.agg #[.string ⟨#[97, 108, 108]⟩, .string ⟨#[98, 109, 111, 115, 100, 102, 101, 70, 68, 83, 79, 77, 66]⟩, .string ⟨#[110, 111, 110, 101]⟩, .string ⟨#[45]⟩, .string ⟨#[97, 112, 97, 114, 116]⟩, .string ⟨#[98, 109, 77, 66]⟩, .string ⟨#[99, 111, 109, 109, 111, 110]⟩, .string ⟨#[111, 115, 100, 102, 101, 70, 68, 83, 79]⟩, .string ⟨#[119, 105, 116, 104, 105, 110]⟩, .string ⟨#[115, 100, 102, 101]⟩, .string ⟨#[98, 101, 103, 105, 110, 115]⟩, .string ⟨#[115, 101, 83]⟩, .string ⟨#[101, 110, 100, 115]⟩, .string ⟨#[102, 101, 70]⟩, .string ⟨#[101, 97, 114, 108, 105, 101, 114]⟩, .string ⟨#[98, 109, 111, 70, 68]⟩]) (.int .i64 5)).run Tryd.prog w = .ok (.agg #[.string ⟨#[98, 101, 103, 105, 110, 115]⟩, .string ⟨#[115, 101, 83]⟩]) w := by kernel_rfl
theorem inm6 (w : World) : (Instr.index 98 (.agg #[.string ⟨#[97, 108, 108]⟩, .string ⟨#[98, 109, 111, 115, 100, 102, 101, 70, 68, 83, 79, 77, 66]⟩, .string ⟨#[110, 111, 110, 101]⟩, .string ⟨#[45]⟩, .string ⟨#[97, 112, 97, 114, 116]⟩, .string ⟨#[98, 109, 77, 66]⟩, .string ⟨#[99, 111, 109, 109, 111, 110]⟩, .string ⟨#[111, 115, 100, 102, 101, 70, 68, 83, 79]⟩, .string ⟨#[119, 105, 116, 104, 105, 110]⟩, .string ⟨#[115, 100, 102, 101]⟩, .string ⟨#[98, 101, 103, 105, 110, 115]⟩, .string ⟨#[115, 101, 83]⟩, .string ⟨#[101, 110, 100, 115]⟩, .string ⟨#[102, 101, 70]⟩, .string ⟨#[101, 97, 114, 108, 105, 101, 114]⟩, .string ⟨#[98, 109, 111, 70, 68]⟩]) (.int .i64 6)).run Tryd.prog w = .ok (.agg #[.string ⟨#[101, 110, 100, 115]⟩, .string ⟨#[102, 101, 70]⟩]) w := by kernel_rfl
theorem inm7 (w : World) : (Instr.index 98 (.agg #[.string ⟨#[97, 108, 108]⟩, .string ⟨#[98, 109, 111, 115, 100, 102, 101, 70, 68, 83, 79, 77, 66]⟩, .string ⟨#[110, 111, 110, 101]⟩, .string ⟨#[45]⟩, .string ⟨#[97, 112, 97, 114, 116]⟩, .string ⟨#[98, 109, 77, 66]⟩, .string ⟨#[99, 111, 109, 109, 111, 110]⟩, .string ⟨#[111, 115, 100, 102, 101, 70, 68, 83, 79]⟩, .string ⟨#[119, 105, 116, 104, 105, 110]⟩, .string ⟨#[115, 100, 102, 101]⟩, .string ⟨#[98, 101, 103, 105, 110, 115]⟩, .string ⟨#[115, 101, 83]⟩, .string ⟨#[101, 110, 100, 115]⟩, .string ⟨#[102, 101, 70]⟩, .string ⟨#[101, 97, 114, 108, 105, 101, 114]⟩, .string ⟨#[98, 109, 111, 70, 68]⟩]) (.int .i64 7)).run Tryd.prog w = .ok (.agg #[.string ⟨#[101, 97, 114, 108, 105, 101, 114]⟩, .string ⟨#[98, 109, 111, 70, 68]⟩]) w := by kernel_rfl
set_option maxHeartbeats 4000000 in
set_option maxRecDepth 100000 in
theorem iNamedRel_any (s : ByteArray) (w : World) (hT : TB w) (hN : TN w) :
    Calls Tryd.prog 56 #[.string s] w fun e w' => e = .returned (.tuple #[.int .i64 (nmI s).1, .bool (nmI s).2]) ∧ Below w.heap.size w w' := by
  have HT := hid hT
  clear hT
  have c0 : w.cell? ⟨0, 0, none⟩ = some (.string ⟨#[97, 108, 108]⟩) := Tb.cell hN 0 _ rfl
  have c1 : w.cell? ⟨0, 1, none⟩ = some (.string ⟨#[98, 109, 111, 115, 100, 102, 101, 70, 68, 83, 79, 77, 66]⟩) := Tb.cell hN 1 _ rfl
  have c2 : w.cell? ⟨0, 2, none⟩ = some (.string ⟨#[110, 111, 110, 101]⟩) := Tb.cell hN 2 _ rfl
  have c3 : w.cell? ⟨0, 3, none⟩ = some (.string ⟨#[45]⟩) := Tb.cell hN 3 _ rfl
  have c4 : w.cell? ⟨0, 4, none⟩ = some (.string ⟨#[97, 112, 97, 114, 116]⟩) := Tb.cell hN 4 _ rfl
  have c5 : w.cell? ⟨0, 5, none⟩ = some (.string ⟨#[98, 109, 77, 66]⟩) := Tb.cell hN 5 _ rfl
  have c6 : w.cell? ⟨0, 6, none⟩ = some (.string ⟨#[99, 111, 109, 109, 111, 110]⟩) := Tb.cell hN 6 _ rfl
  have c7 : w.cell? ⟨0, 7, none⟩ = some (.string ⟨#[111, 115, 100, 102, 101, 70, 68, 83, 79]⟩) := Tb.cell hN 7 _ rfl
  have c8 : w.cell? ⟨0, 8, none⟩ = some (.string ⟨#[119, 105, 116, 104, 105, 110]⟩) := Tb.cell hN 8 _ rfl
  have c9 : w.cell? ⟨0, 9, none⟩ = some (.string ⟨#[115, 100, 102, 101]⟩) := Tb.cell hN 9 _ rfl
  have c10 : w.cell? ⟨0, 10, none⟩ = some (.string ⟨#[98, 101, 103, 105, 110, 115]⟩) := Tb.cell hN 10 _ rfl
  have c11 : w.cell? ⟨0, 11, none⟩ = some (.string ⟨#[115, 101, 83]⟩) := Tb.cell hN 11 _ rfl
  have c12 : w.cell? ⟨0, 12, none⟩ = some (.string ⟨#[101, 110, 100, 115]⟩) := Tb.cell hN 12 _ rfl
  have c13 : w.cell? ⟨0, 13, none⟩ = some (.string ⟨#[102, 101, 70]⟩) := Tb.cell hN 13 _ rfl
  have c14 : w.cell? ⟨0, 14, none⟩ = some (.string ⟨#[101, 97, 114, 108, 105, 101, 114]⟩) := Tb.cell hN 14 _ rfl
  have c15 : w.cell? ⟨0, 15, none⟩ = some (.string ⟨#[98, 109, 111, 70, 68]⟩) := Tb.cell hN 15 _ rfl
  have i0 := inm0
  have i1 := inm1
  have i2 := inm2
  have i3 := inm3
  have i4 := inm4
  have i5 := inm5
  have i6 := inm6
  have i7 := inm7
  clear hN
  rcases nm_cases s with rfl | rfl | rfl | rfl | rfl | rfl | rfl | rfl | ⟨q0, q1, q2, q3, q4, q5, q6, q7, hr⟩
  · have HR := hid (show nmI ⟨#[97, 108, 108]⟩ = prs ⟨#[98, 109, 111, 115, 100, 102, 101, 70, 68, 83, 79, 77, 66]⟩ by decide +kernel)
    have HS := AllLt.start w; have hn2 := lt2; have hn3 := lt3; have hn4 := lt4; go_enter Tryd.func56, Tryd.ntmps56
    go_wp2_with fail
    refine wp_loop_rounds 1 ?_
    iterate 1
      rw [rounds_succ]
      go_wp2_with (first | (go_at_call 34; (with_reducible refine (iParseRel_any _ _ (HT.out.below (by go_grown))).mono ?_); rintro e w' ⟨rfl, hb⟩; obtain ⟨HB, hz0, hz, hc, hf⟩ := bst (w0 := w) (by go_grown) hb; clear hb; (try simp at hz); (first | ((refine HS.g5 (m := w'.heap.size) ?_ ?_); (focus omega); intro HS) | ((refine HS.g4 (m := w'.heap.size) ?_ ?_); (focus omega); intro HS) | ((refine HS.g3 (m := w'.heap.size) ?_ ?_); (focus omega); intro HS) | ((refine HS.g2 (m := w'.heap.size) ?_ ?_); (focus omega); intro HS) | ((refine HS.g1 (m := w'.heap.size) ?_ ?_); (focus omega); intro HS) | ((refine HS.g0 (m := w'.heap.size) ?_ ?_); (focus omega); intro HS)); have HU := HS; simp only [AllLt] at HU))
    go_ret2
    exact ⟨by rw [HR.out]; rfl, by (repeat' (first | (with_reducible exact Below.refl _ _) | (with_reducible refine Below.setCell ?_ ?_ _) | (with_reducible refine below_drewN' ?_ _) | (with_reducible refine below_drew' ?_) | (with_reducible refine Below.alloc ?_ ?_ _) | (with_reducible assumption) | go_size))⟩
  · have HR := hid (show nmI ⟨#[110, 111, 110, 101]⟩ = prs ⟨#[45]⟩ by decide +kernel)
    have HS := AllLt.start w; have hn2 := lt2; have hn3 := lt3; have hn4 := lt4; go_enter Tryd.func56, Tryd.ntmps56
    go_wp2_with fail
    refine wp_loop_rounds 2 ?_
    iterate 2
      rw [rounds_succ]
      go_wp2_with (first | (go_at_call 34; (with_reducible refine (iParseRel_any _ _ (HT.out.below (by go_grown))).mono ?_); rintro e w' ⟨rfl, hb⟩; obtain ⟨HB, hz0, hz, hc, hf⟩ := bst (w0 := w) (by go_grown) hb; clear hb; (try simp at hz); (first | ((refine HS.g5 (m := w'.heap.size) ?_ ?_); (focus omega); intro HS) | ((refine HS.g4 (m := w'.heap.size) ?_ ?_); (focus omega); intro HS) | ((refine HS.g3 (m := w'.heap.size) ?_ ?_); (focus omega); intro HS) | ((refine HS.g2 (m := w'.heap.size) ?_ ?_); (focus omega); intro HS) | ((refine HS.g1 (m := w'.heap.size) ?_ ?_); (focus omega); intro HS) | ((refine HS.g0 (m := w'.heap.size) ?_ ?_); (focus omega); intro HS)); have HU := HS; simp only [AllLt] at HU))
    go_ret2
    exact ⟨by rw [HR.out]; rfl, by (repeat' (first | (with_reducible exact Below.refl _ _) | (with_reducible refine Below.setCell ?_ ?_ _) | (with_reducible refine below_drewN' ?_ _) | (with_reducible refine below_drew' ?_) | (with_reducible refine Below.alloc ?_ ?_ _) | (with_reducible assumption) | go_size))⟩
  · have HR := hid (show nmI ⟨#[97, 112, 97, 114, 116]⟩ = prs ⟨#[98, 109, 77, 66]⟩ by decide +kernel)
    have HS := AllLt.start w; have hn2 := lt2; have hn3 := lt3; have hn4 := lt4; go_enter Tryd.func56, Tryd.ntmps56
    go_wp2_with fail
    refine wp_loop_rounds 3 ?_
    iterate 3
      rw [rounds_succ]
      go_wp2_with (first | (go_at_call 34; (with_reducible refine (iParseRel_any _ _ (HT.out.below (by go_grown))).mono ?_); rintro e w' ⟨rfl, hb⟩; obtain ⟨HB, hz0, hz, hc, hf⟩ := bst (w0 := w) (by go_grown) hb; clear hb; (try simp at hz); (first | ((refine HS.g5 (m := w'.heap.size) ?_ ?_); (focus omega); intro HS) | ((refine HS.g4 (m := w'.heap.size) ?_ ?_); (focus omega); intro HS) | ((refine HS.g3 (m := w'.heap.size) ?_ ?_); (focus omega); intro HS) | ((refine HS.g2 (m := w'.heap.size) ?_ ?_); (focus omega); intro HS) | ((refine HS.g1 (m := w'.heap.size) ?_ ?_); (focus omega); intro HS) | ((refine HS.g0 (m := w'.heap.size) ?_ ?_); (focus omega); intro HS)); have HU := HS; simp only [AllLt] at HU))
    go_ret2
    exact ⟨by rw [HR.out]; rfl, by (repeat' (first | (with_reducible exact Below.refl _ _) | (with_reducible refine Below.setCell ?_ ?_ _) | (with_reducible refine below_drewN' ?_ _) | (with_reducible refine below_drew' ?_) | (with_reducible refine Below.alloc ?_ ?_ _) | (with_reducible assumption) | go_size))⟩
  · have HR := hid (show nmI ⟨#[99, 111, 109, 109, 111, 110]⟩ = prs ⟨#[111, 115, 100, 102, 101, 70, 68, 83, 79]⟩ by decide +kernel)
    have HS := AllLt.start w; have hn2 := lt2; have hn3 := lt3; have hn4 := lt4; go_enter Tryd.func56, Tryd.ntmps56
    go_wp2_with fail
    refine wp_loop_rounds 4 ?_
    iterate 4
      rw [rounds_succ]
      go_wp2_with (first | (go_at_call 34; (with_reducible refine (iParseRel_any _ _ (HT.out.below (by go_grown))).mono ?_); rintro e w' ⟨rfl, hb⟩; obtain ⟨HB, hz0, hz, hc, hf⟩ := bst (w0 := w) (by go_grown) hb; clear hb; (try simp at hz); (first | ((refine HS.g5 (m := w'.heap.size) ?_ ?_); (focus omega); intro HS) | ((refine HS.g4 (m := w'.heap.size) ?_ ?_); (focus omega); intro HS) | ((refine HS.g3 (m := w'.heap.size) ?_ ?_); (focus omega); intro HS) | ((refine HS.g2 (m := w'.heap.size) ?_ ?_); (focus omega); intro HS) | ((refine HS.g1 (m := w'.heap.size) ?_ ?_); (focus omega); intro HS) | ((refine HS.g0 (m := w'.heap.size) ?_ ?_); (focus omega); intro HS)); have HU := HS; simp only [AllLt] at HU))
    go_ret2
    exact ⟨by rw [HR.out]; rfl, by (repeat' (first | (with_reducible exact Below.refl _ _) | (with_reducible refine Below.setCell ?_ ?_ _) | (with_reducible refine below_drewN' ?_ _) | (with_reducible refine below_drew' ?_) | (with_reducible refine Below.alloc ?_ ?_ _) | (with_reducible assumption) | go_size))⟩
  · have HR := hid (show nmI ⟨#[119, 105, 116, 104, 105, 110]⟩ = prs ⟨#[115, 100, 102, 101]⟩ by decide +kernel)
    have HS := AllLt.start w; have hn2 := lt2; have hn3 := lt3; have hn4 := lt4; go_enter Tryd.func56, Tryd.ntmps56
    go_wp2_with fail
    refine wp_loop_rounds 5 ?_
    iterate 5
      rw [rounds_succ]
      go_wp2_with (first | (go_at_call 34; (with_reducible refine (iParseRel_any _ _ (HT.out.below (by go_grown))).mono ?_); rintro e w' ⟨rfl, hb⟩; obtain ⟨HB, hz0, hz, hc, hf⟩ := bst (w0 := w) (by go_grown) hb; clear hb; (try simp at hz); (first | ((refine HS.g5 (m := w'.heap.size) ?_ ?_); (focus omega); intro HS) | ((refine HS.g4 (m := w'.heap.size) ?_ ?_); (focus omega); intro HS) | ((refine HS.g3 (m := w'.heap.size) ?_ ?_); (focus omega); intro HS) | ((refine HS.g2 (m := w'.heap.size) ?_ ?_); (focus omega); intro HS) | ((refine HS.g1 (m := w'.heap.size) ?_ ?_); (focus omega); intro HS) | ((refine HS.g0 (m := w'.heap.size) ?_ ?_); (focus omega); intro HS)); have HU := HS; simp only [AllLt] at HU))
    go_ret2
    exact ⟨by rw [HR.out]; rfl, by (repeat' (first | (with_reducible exact Below.refl _ _) | (with_reducible refine Below.setCell ?_ ?_ _) | (with_reducible refine below_drewN' ?_ _) | (with_reducible refine below_drew' ?_) | (with_reducible refine Below.alloc ?_ ?_ _) | (with_reducible assumption) | go_size))⟩
  · have HR := hid (show nmI ⟨#[98, 101, 103, 105, 110, 115]⟩ = prs ⟨#[115, 101, 83]⟩ by decide +kernel)
    have HS := AllLt.start w; have hn2 := lt2; have hn3 := lt3; have hn4 := lt4; go_enter Tryd.func56, Tryd.ntmps56
    go_wp2_with fail
    refine wp_loop_rounds 6 ?_
    iterate 6
      rw [rounds_succ]
      go_wp2_with (first | (go_at_call 34; (with_reducible refine (iParseRel_any _ _ (HT.out.below (by go_grown))).mono ?_); rintro e w' ⟨rfl, hb⟩; obtain ⟨HB, hz0, hz, hc, hf⟩ := bst (w0 := w) (by go_grown) hb; clear hb; (try simp at hz); (first | ((refine HS.g5 (m := w'.heap.size) ?_ ?_); (focus omega); intro HS) | ((refine HS.g4 (m := w'.heap.size) ?_ ?_); (focus omega); intro HS) | ((refine HS.g3 (m := w'.heap.size) ?_ ?_); (focus omega); intro HS) | ((refine HS.g2 (m := w'.heap.size) ?_ ?_); (focus omega); intro HS) | ((refine HS.g1 (m := w'.heap.size) ?_ ?_); (focus omega); intro HS) | ((refine HS.g0 (m := w'.heap.size) ?_ ?_); (focus omega); intro HS)); have HU := HS; simp only [AllLt] at HU))
    go_ret2
    exact ⟨by rw [HR.out]; rfl, by (repeat' (first | (with_reducible exact Below.refl _ _) | (with_reducible refine Below.setCell ?_ ?_ _) | (with_reducible refine below_drewN' ?_ _) | (with_reducible refine below_drew' ?_) | (with_reducible refine Below.alloc ?_ ?_ _) | (with_reducible assumption) | go_size))⟩
  · have HR := hid (show nmI ⟨#[101, 110, 100, 115]⟩ = prs ⟨#[102, 101, 70]⟩ by decide +kernel)
    have HS := AllLt.start w; have hn2 := lt2; have hn3 := lt3; have hn4 := lt4; go_enter Tryd.func56, Tryd.ntmps56
    go_wp2_with fail
    refine wp_loop_rounds 7 ?_
    iterate 7
      rw [rounds_succ]
      go_wp2_with (first | (go_at_call 34; (with_reducible refine (iParseRel_any _ _ (HT.out.below (by go_grown))).mono ?_); rintro e w' ⟨rfl, hb⟩; obtain ⟨HB, hz0, hz, hc, hf⟩ := bst (w0 := w) (by go_grown) hb; clear hb; (try simp at hz); (first | ((refine HS.g5 (m := w'.heap.size) ?_ ?_); (focus omega); intro HS) | ((refine HS.g4 (m := w'.heap.size) ?_ ?_); (focus omega); intro HS) | ((refine HS.g3 (m := w'.heap.size) ?_ ?_); (focus omega); intro HS) | ((refine HS.g2 (m := w'.heap.size) ?_ ?_); (focus omega); intro HS) | ((refine HS.g1 (m := w'.heap.size) ?_ ?_); (focus omega); intro HS) | ((refine HS.g0 (m := w'.heap.size) ?_ ?_); (focus omega); intro HS)); have HU := HS; simp only [AllLt] at HU))
    go_ret2
    exact ⟨by rw [HR.out]; rfl, by (repeat' (first | (with_reducible exact Below.refl _ _) | (with_reducible refine Below.setCell ?_ ?_ _) | (with_reducible refine below_drewN' ?_ _) | (with_reducible refine below_drew' ?_) | (with_reducible refine Below.alloc ?_ ?_ _) | (with_reducible assumption) | go_size))⟩
  · have HR := hid (show nmI ⟨#[101, 97, 114, 108, 105, 101, 114]⟩ = prs ⟨#[98, 109, 111, 70, 68]⟩ by decide +kernel)
    have HS := AllLt.start w; have hn2 := lt2; have hn3 := lt3; have hn4 := lt4; go_enter Tryd.func56, Tryd.ntmps56
    go_wp2_with fail
    refine wp_loop_rounds 8 ?_
    iterate 8
      rw [rounds_succ]
      go_wp2_with (first | (go_at_call 34; (with_reducible refine (iParseRel_any _ _ (HT.out.below (by go_grown))).mono ?_); rintro e w' ⟨rfl, hb⟩; obtain ⟨HB, hz0, hz, hc, hf⟩ := bst (w0 := w) (by go_grown) hb; clear hb; (try simp at hz); (first | ((refine HS.g5 (m := w'.heap.size) ?_ ?_); (focus omega); intro HS) | ((refine HS.g4 (m := w'.heap.size) ?_ ?_); (focus omega); intro HS) | ((refine HS.g3 (m := w'.heap.size) ?_ ?_); (focus omega); intro HS) | ((refine HS.g2 (m := w'.heap.size) ?_ ?_); (focus omega); intro HS) | ((refine HS.g1 (m := w'.heap.size) ?_ ?_); (focus omega); intro HS) | ((refine HS.g0 (m := w'.heap.size) ?_ ?_); (focus omega); intro HS)); have HU := HS; simp only [AllLt] at HU))
    go_ret2
    exact ⟨by rw [HR.out]; rfl, by (repeat' (first | (with_reducible exact Below.refl _ _) | (with_reducible refine Below.setCell ?_ ?_ _) | (with_reducible refine below_drewN' ?_ _) | (with_reducible refine below_drew' ?_) | (with_reducible refine Below.alloc ?_ ?_ _) | (with_reducible assumption) | go_size))⟩
  · have HR := hid hr
    have b0 := same_f (fun e => q0 (Eq.symm e))
    have b1 := same_f (fun e => q1 (Eq.symm e))
    have b2 := same_f (fun e => q2 (Eq.symm e))
    have b3 := same_f (fun e => q3 (Eq.symm e))
    have b4 := same_f (fun e => q4 (Eq.symm e))
    have b5 := same_f (fun e => q5 (Eq.symm e))
    have b6 := same_f (fun e => q6 (Eq.symm e))
    have b7 := same_f (fun e => q7 (Eq.symm e))
    simp only [ByteArray.toList_eq] at b0 b1 b2 b3 b4 b5 b6 b7
    simp only [← ByteArray.toList_eq] at b0 b1 b2 b3 b4 b5 b6 b7
    clear q0 q1 q2 q3 q4 q5 q6 q7 hr
    have HS := AllLt.start w; have hn2 := lt2; have hn3 := lt3; have hn4 := lt4; go_enter Tryd.func56, Tryd.ntmps56
    go_wp2_with fail
    refine wp_loop_rounds 9 ?_
    iterate 9
      rw [rounds_succ]
      go_wp2_with fail
    go_ret2
    exact ⟨by rw [HR.out]; rfl, by (repeat' (first | (with_reducible exact Below.refl _ _) | (with_reducible refine Below.setCell ?_ ?_ _) | (with_reducible refine below_drewN' ?_ _) | (with_reducible refine below_drew' ?_) | (with_reducible refine Below.alloc ?_ ?_ _) | (with_reducible assumption) | go_size))⟩
end Go.Proofs.YtnhpjjbblegnaabDoor.C
