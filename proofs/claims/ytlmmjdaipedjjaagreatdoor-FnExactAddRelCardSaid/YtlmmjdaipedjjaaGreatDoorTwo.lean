/- Walks over chapter 2's intervals: whether they are valid, their length, what two have in common, their hull, the mirrored one. -/
import Derived.Test.YtlmmjdaipedjjaaGreatDoorOne
import Derived.Deep.RegionWith
namespace Go.Proofs.YtlmmjdaipedjjaaGreatDoor.C
open Go.RowKit
set_option linter.unusedVariables false
set_option linter.unusedSimpArgs false



/-- A struct of two numbers and a bool, as results. -/
theorem ret_ab {a b a' b' : Int} {x y : Bool} (h0 : a = a') (h1 : b = b') (h2 : x = y) : Ending.returned (.tuple #[.agg #[.int .i64 a, .int .i64 b], .bool x]) = .returned (.tuple #[.agg #[.int .i64 a', .int .i64 b'], .bool y]) := by rw [h0, h1, h2]
end Go.Proofs.YtlmmjdaipedjjaaGreatDoor.C
