/-
  DERIVED. GIVEN WITH THE SEED: THE PROGRAM's TIES (one call each: nine closed facts by the kernel) AND EACH ROW's TIE, after the 31st guide's Derived/Test/Toyas{Tie, Card}.lean. No idea stands in it: it is a product of the set-up. Laid BY PROGRAM, IN A SANDBOX (cutbox-door.mjs). By AI agents, Wed Nov 11 2026. No macro, syntax, notation, axiom, sorry.
-/
import Derived.Test.YthldegohihkkiaaDoorRows
import Derived.LaidByTextLater
import Derived.SevenTiedAt
import Derived.LaidSub
import Derived.LaidOnce
namespace Go.Proofs.YthldegohihkkiaaDoor
open Go
set_option maxRecDepth 100000
theorem seatTie1 : Tryd.prog.laidByTextLater [("loop.example/intervalsandplaces/impl.basicTable", Rows.laid_loop_example_intervalsandplaces_impl_basicTable), ("loop.example/intervalsandplaces/impl.namedTable", Rows.laid_loop_example_intervalsandplaces_impl_namedTable)] [.data, .data] true :=
  Program.laidByTextLater_by_one 40 8 40 (by kernel_rfl) (by kernel_rfl) (by kernel_rfl) (by kernel_rfl) (by kernel_rfl) (by kernel_rfl) (fun _ _ => by kernel_rfl)
theorem noOwnUnsafe : Tryd.pinned.checked.prog.headLifts.contains "ownunsafe" = false := by kernel_rfl
theorem tie : Tryd.prog.laidByTextLater [("loop.example/intervalsandplaces/impl.basicTable", Rows.laid_loop_example_intervalsandplaces_impl_basicTable)] [.data] true :=
  Program.laidByTextLater.sub seatTie1 ["loop.example/intervalsandplaces/impl.basicTable"] (by kernel_rfl) (by kernel_rfl)
theorem fnExactFormatRel_row_tie : Rows.fnExactFormatRelRow.laidByTextAt .later Tryd.pinned [.data] true :=
  OpenClaim.laidByTextAt_later rfl rfl tie noOwnUnsafe
theorem fnExactParseRel_row_tie : Rows.fnExactParseRelRow.laidByTextAt .later Tryd.pinned [.data] true :=
  OpenClaim.laidByTextAt_later rfl rfl tie noOwnUnsafe
theorem fnExactRelHolds_row_tie : Rows.fnExactRelHoldsRow.laidByTextAt .later Tryd.pinned [.data] true :=
  OpenClaim.laidByTextAt_later rfl rfl tie noOwnUnsafe
theorem fnExactTurnRel_row_tie : Rows.fnExactTurnRelRow.laidByTextAt .later Tryd.pinned [.data] true :=
  OpenClaim.laidByTextAt_later rfl rfl tie noOwnUnsafe
theorem fnExactMirrorRel_row_tie : Rows.fnExactMirrorRelRow.laidByTextAt .later Tryd.pinned [.data] true :=
  OpenClaim.laidByTextAt_later rfl rfl tie noOwnUnsafe
theorem fnExactComposeBasic_row_tie : Rows.fnExactComposeBasicRow.laidByTextAt .later Tryd.pinned [.data] true :=
  OpenClaim.laidByTextAt_later rfl rfl tie noOwnUnsafe
theorem fnExactComposeRel_row_tie : Rows.fnExactComposeRelRow.laidByTextAt .later Tryd.pinned [.data] true :=
  OpenClaim.laidByTextAt_later rfl rfl tie noOwnUnsafe
theorem fnExactResidualRel_row_tie : Rows.fnExactResidualRelRow.laidByTextAt .later Tryd.pinned [.data] true :=
  OpenClaim.laidByTextAt_later rfl rfl tie noOwnUnsafe
theorem tie2 : Tryd.prog.laidByTextLater [("loop.example/intervalsandplaces/impl.basicTable", Rows.laid_loop_example_intervalsandplaces_impl_basicTable), ("loop.example/intervalsandplaces/impl.namedTable", Rows.laid_loop_example_intervalsandplaces_impl_namedTable)] [.data, .data] true :=
  Program.laidByTextLater.sub seatTie1 ["loop.example/intervalsandplaces/impl.basicTable", "loop.example/intervalsandplaces/impl.namedTable"] (by kernel_rfl) (by kernel_rfl)
theorem fnExactNamedRel_row_tie : Rows.fnExactNamedRelRow.laidByTextAt .later Tryd.pinned [.data, .data] true :=
  OpenClaim.laidByTextAt_later rfl rfl tie2 noOwnUnsafe
theorem fnExactFormatRelUpto_row_tie : Rows.fnExactFormatRelUptoRow.laidByTextAt .later Tryd.pinned [.data] true :=
  OpenClaim.laidByTextAt_later rfl rfl tie noOwnUnsafe
theorem fnExactParseRelUpto_row_tie : Rows.fnExactParseRelUptoRow.laidByTextAt .later Tryd.pinned [.data] true :=
  OpenClaim.laidByTextAt_later rfl rfl tie noOwnUnsafe
theorem fnExactRelHoldsUpto_row_tie : Rows.fnExactRelHoldsUptoRow.laidByTextAt .later Tryd.pinned [.data] true :=
  OpenClaim.laidByTextAt_later rfl rfl tie noOwnUnsafe
theorem fnExactTurnRelUpto_row_tie : Rows.fnExactTurnRelUptoRow.laidByTextAt .later Tryd.pinned [.data] true :=
  OpenClaim.laidByTextAt_later rfl rfl tie noOwnUnsafe
theorem fnExactMirrorRelUpto_row_tie : Rows.fnExactMirrorRelUptoRow.laidByTextAt .later Tryd.pinned [.data] true :=
  OpenClaim.laidByTextAt_later rfl rfl tie noOwnUnsafe
theorem fnExactComposeBasicUpto_row_tie : Rows.fnExactComposeBasicUptoRow.laidByTextAt .later Tryd.pinned [.data] true :=
  OpenClaim.laidByTextAt_later rfl rfl tie noOwnUnsafe
theorem fnExactComposeRelUpto_row_tie : Rows.fnExactComposeRelUptoRow.laidByTextAt .later Tryd.pinned [.data] true :=
  OpenClaim.laidByTextAt_later rfl rfl tie noOwnUnsafe
theorem fnExactNamedRelUpto_row_tie : Rows.fnExactNamedRelUptoRow.laidByTextAt .later Tryd.pinned [.data, .data] true :=
  OpenClaim.laidByTextAt_later rfl rfl tie2 noOwnUnsafe
theorem fnExactResidualRelUpto_row_tie : Rows.fnExactResidualRelUptoRow.laidByTextAt .later Tryd.pinned [.data] true :=
  OpenClaim.laidByTextAt_later rfl rfl tie noOwnUnsafe
end Go.Proofs.YthldegohihkkiaaDoor
