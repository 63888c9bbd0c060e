/- For every input, laws.FnPutRel of the program at this commit returns true, and each argument reads behind the call as it read before. Conditions: those of the given row and card alone. -/
import Derived.Test.YtnogdjmciekieabDoorCards
import Derived.Test.YtnogdjmciekieabDoorTie
import Derived.SevenTiedAt
import Derived.Lib.LaidTab
import Derived.LaidMore
import Derived.OpenVars
import Derived.Stop.Joined
import Derived.MakeChecks
import Derived.Test.YtnogdjmciekieabDoorLaid
import Derived.Test.YtnogdjmciekieabDoorFac
import Derived.Test.YtnogdjmciekieabDoorLawPut
import Derived.WalkKit
import Derived.ProofKit
import Derived.OpenShut
import Derived.ShutString
import Derived.ChangeOld
import Derived.Below
import Derived.Lib.SmallJoins
namespace Go.Proofs.YtnogdjmciekieabDoor.fnPutRel
open Go.ChangeShapes Go.WideShapes Go.ChangeAt Go.RowKit Go.Proofs.YtnogdjmciekieabDoor.C
open Go.ChangeMaps (open_string shut_string)
set_option linter.unusedVariables false

theorem own : ownKnob Tryd.prog.godebug = none := by kernel_rfl
theorem laidOut : laidOutB Tryd.prog = true := by kernel_rfl

theorem tab0 {W : World} (h : laidMetH Tryd.prog Rows.fnPutRelRow.laid W) : Tb W 1 #[.string ⟨#[98]⟩, .int .i64 0, .int .i64 0, .string ⟨#[109]⟩, .int .i64 0, .int .i64 1, .string ⟨#[111]⟩, .int .i64 0, .int .i64 2, .string ⟨#[115]⟩, .int .i64 1, .int .i64 2, .string ⟨#[100]⟩, .int .i64 2, .int .i64 2, .string ⟨#[102]⟩, .int .i64 2, .int .i64 3, .string ⟨#[101]⟩, .int .i64 1, .int .i64 3, .string ⟨#[70]⟩, .int .i64 0, .int .i64 3, .string ⟨#[68]⟩, .int .i64 0, .int .i64 4, .string ⟨#[83]⟩, .int .i64 1, .int .i64 4, .string ⟨#[79]⟩, .int .i64 2, .int .i64 4, .string ⟨#[77]⟩, .int .i64 3, .int .i64 4, .string ⟨#[66]⟩, .int .i64 4, .int .i64 4] := by
  rw [MakeChecks.laidMetH_plain _ _ _ (by kernel_rfl)] at h
  exact tb_head (cs := [.string ⟨#[98]⟩, .int .i64 0, .int .i64 0, .string ⟨#[109]⟩, .int .i64 0, .int .i64 1, .string ⟨#[111]⟩, .int .i64 0, .int .i64 2, .string ⟨#[115]⟩, .int .i64 1, .int .i64 2, .string ⟨#[100]⟩, .int .i64 2, .int .i64 2, .string ⟨#[102]⟩, .int .i64 2, .int .i64 3, .string ⟨#[101]⟩, .int .i64 1, .int .i64 3, .string ⟨#[70]⟩, .int .i64 0, .int .i64 3, .string ⟨#[68]⟩, .int .i64 0, .int .i64 4, .string ⟨#[83]⟩, .int .i64 1, .int .i64 4, .string ⟨#[79]⟩, .int .i64 2, .int .i64 4, .string ⟨#[77]⟩, .int .i64 3, .int .i64 4, .string ⟨#[66]⟩, .int .i64 4, .int .i64 4]) (t := 152) 6 (by kernel_rfl) (by kernel_rfl) (by kernel_rfl) h
theorem rowed : varsRowed Tryd.prog Rows.fnPutRelSpec.vars = true := by kernel_rfl
theorem door_met (os : Os) (args : Array Value) : laidMetH Tryd.prog Rows.fnPutRelRow.laid ((World.doorLaid Tryd.prog 400 os).forCall (fun _ _ => 0) ⟨#[], args, []⟩).memory :=
  laidMetH_of_parts3 (fuel := 8) (laidMet_of_run' 8 (by kernel_rfl) (by kernel_rfl)) (by kernel_rfl) (by kernel_rfl)

set_option maxRecDepth 100000 in
theorem lifted (os : Os) (started : os.Started) (H : Type) (enc : TypeId × Value → H) :
    ReturnsInHanded {} Tryd.checked os 4 .any (fun w args => (Rows.fnPutRelSpec.pre enc Tryd.prog Tryd.f4 [] false w args ∧ laidMetH Tryd.prog Rows.fnPutRelRow.laid w) ∧ sizedMet enc Tryd.prog Tryd.f4 (OpenSpec.ofChange Rows.fnPutRelSpec) false w args)
      (Rows.fnPutRelSpec.post enc Tryd.prog Tryd.f4 false true false false) := by
  refine returnsInHanded_of_change_and (C := Tryd.checked) (X := fun w _ => laidMetH Tryd.prog Rows.fnPutRelRow.laid w) (fun _ _ _ hh h => h.of_heap hh) own started (by kernel_rfl) Tryd.func4
    (ChangeSpec.witness_shaped (enc := enc) (C := Tryd.checked) (os := os) (X := fun w _ => laidMetH Tryd.prog Rows.fnPutRelRow.laid w) false (World.doorLaid Tryd.prog 400 os) #[.slice none 0 0] 8 rfl (World.shaped_of_RefB (by kernel_rfl) (by kernel_rfl)) (by kernel_rfl) (by kernel_rfl) (by kernel_rfl) (door_met os _)) ?_
  intro W base args ds gs before hval0 hW _ _ hL hsz
  have hval : ∀ (j : Nat) t v, Tryd.f4.params[j]? = some t → args[j]? = some v → Value.okWide Tryd.prog W .any base t v := hval0
  have hW' := hW
  obtain ⟨p, q, hA0, hV, rfl, hfz, hnd⟩ := hW
  have hA : DataW.TrodAll enc Tryd.prog W 0 (fun _ => true) true Tryd.f4.params.toList args.toList ds p := hA0
  rw [Tryd.params4] at hA hval
  obtain ⟨v0, vs0, d0, ds0, p0, q0, hargs, rfl, rfl, h0, r0⟩ := trodAll_cons hA
  obtain ⟨rfl, rfl, rfl⟩ := trodAll_nil r0
  obtain rfl : args = #[v0] := by cases args; simp_all
  obtain ⟨g0, rfl⟩ : ∃ g0, gs = [g0] := by
    have hl := trodVars_len hV
    match gs, hl with
    | [g0], _ => exact ⟨g0, rfl⟩
  obtain ⟨a0, len0, cap0, rfl⟩ := okWide_slice Tryd.underlying22 (hval 0 22 v0 rfl rfl)
  have k0 := h0
  have lt0 : ∀ x ∈ p0, x.block < W.heap.size := by obtain ⟨m, hm⟩ := k0; exact DataW.trod_lt m _ _ _ hm
  obtain ⟨z0, w0⟩ : ∃ zs, IsRow .u8 W a0 len0 cap0 zs := by
    obtain ⟨fuel, hf⟩ := h0
    rcases open_ints Tryd.underlying22 Tryd.underlying5 (by kernel_rfl) hf with ⟨hcs, _⟩ | ⟨x, l, c, zs, hcs, _, hl, hm, hz, _, hcell, hwz⟩
    · simp [Value.cells] at hcs
      obtain ⟨rfl, rfl, rfl⟩ := hcs
      exact ⟨[], .inl ⟨rfl, rfl, rfl, rfl⟩⟩
    · simp [Value.cells] at hcs
      obtain ⟨rfl, rfl, rfl⟩ := hcs
      exact ⟨zs, .inr ⟨_, rfl, hl, hm, by simpa using hz, hcell, hwz⟩⟩
  clear hA0 hval0
  refine (walk_FnPutRel a0 len0 cap0 z0 W w0 (hB := tab0 hL)).mono fun e W' ⟨he, bel⟩ => ?_
  subst he
  exact ⟨_, rfl, _, _, _, [], _, _, hW', trodAll_mk1 (shut_bool Tryd.underlying4 _), (trodAll_cons_mk (Below.trod laidOut (by kernel_rfl) (of_decide_eq_true (by kernel_rfl)) k0 bel lt0) trodAll_mk0), Below.trodVars laidOut bel rowed hV, bel.frame _, fun h => by cases h⟩

theorem closed : joinedFacts Tryd.prog 4 Tryd.f4 Rows.fnPutRelSpec Rows.fnPutRelRow = true := by
  unfold joinedFacts
  rw [C.k_laid, C.k_maps, C.k_heard, C.k_enter, C.k_lift, C.k_make]
  kernel_rfl

theorem over : Rows.FnPutRelSaid :=
  OpenClaim.holds_of_wide 4 Tryd.f4 rfl rfl rfl rfl rfl rfl rfl ⟨rfl, rfl, rfl, rfl, rfl⟩ rfl rfl rfl rfl rfl (by kernel_rfl) Tryd.func4 closed
    (of_decide_eq_true (by kernel_rfl)) (by unfold Func.isWrapper; first | (rw [if_pos (by decide +kernel)]; kernel_rfl) | (rw [if_neg (by decide +kernel)]; exact ⟨rfl, rfl⟩))
    (fun os started H enc _ => lifted os started H enc)

theorem plain (f : FuncId) (fn : Func) (hf : Tryd.pinned.checked.prog.funcNamed Rows.fnPutRelRow.func = some f) (hfn : Tryd.pinned.checked.prog.funcs[f]? = some fn) :
    false = Tryd.pinned.checked.prog.looks [] ∧ ∀ (j : Nat) t, fn.params[j]? = some t → Tryd.pinned.checked.prog.wantsStandIn t = false := by
  obtain rfl : f = 4 := Option.some.inj ((show Tryd.prog.funcNamed Rows.fnPutRelRow.func = some 4 by kernel_rfl).symm.trans hf) |>.symm
  obtain rfl : fn = Tryd.f4 := (Option.some.inj (Tryd.func4.symm.trans hfn)).symm
  refine ⟨by kernel_rfl, fun j t ht => ?_⟩
  rw [Tryd.params4] at ht
  have hm : t ∈ [22] := by simpa using Array.mem_of_getElem? ht
  have hall : ([22].all fun u => !Tryd.prog.wantsStandIn u) = true := by kernel_rfl
  exact (show Tryd.prog.wantsStandIn t = false by simpa using List.all_eq_true.1 hall t hm)

theorem proved : Rows.FnPutRelCardSaid :=
  Claim7.holds_tied_plain_at .later [] _ _ _ _ over (fun _ h => by cases h) (by kernel_rfl) (fun _ h => by cases h) fnPutRel_row_tie rfl ⟨rfl, rfl⟩ C.k_main rfl plain (by kernel_rfl)
end Go.Proofs.YtnogdjmciekieabDoor.fnPutRel
