/- What the statements' form asks of the whole program, shown once for the seat: each as one small declaration, for the kernel reads the program's long word letter by letter. -/
import Derived.Test.YtmdgkhebefnfeaaDoorRows
import Derived.JoinedOf
import Derived.KernelRfl
namespace Go.Proofs.YtmdgkhebefnfeaaDoor.C
open Go
theorem take_of {s : String} {l : List Char} {r : List (List Char)} (h : s = String.ofList l) (k : (wordsSigns l).take 3 = r) : (wordsSigns s.toList).take 3 = r := by rw [h, String.toList_ofList]; exact k
theorem words3 {l : List (List Char)} {a b c : List Char} (h : l.take 3 = [a, b, c]) : ∃ r, l = a :: b :: c :: r := by
  match l, h with
  | x :: y :: z :: r, h => simp at h; obtain ⟨rfl, rfl, rfl⟩ := h; exact ⟨r, rfl⟩
  | [], h => simp at h
  | [x], h => simp at h
  | [x, y], h => simp at h
theorem strip_cut (r : List (List Char)) : stripLifts liftWords ("cut".toList :: r) = ([], "cut".toList :: r) := by kernel_rfl
theorem main_of {P : Program} {s c : List Char} {r : List (List Char)} (h : wordsSigns P.initOrder.toList = "harness".toList :: s :: c :: r) (hs : isSumSigns s = true) : P.mainIs = some (true, s) := by
  unfold Program.mainIs
  rw [h]
  simp [hs]
theorem behind_of {P : Program} {s : List Char} {r : List (List Char)} (h : wordsSigns P.initOrder.toList = "harness".toList :: s :: "cut".toList :: r) (hs : isSumSigns s = true) : behindMainWord (wordsSigns P.initOrder.toList) = "cut".toList :: r := by
  rw [h]
  unfold behindMainWord
  simp [hs]
theorem enter_of {P : Program} {r : List (List Char)} (h : behindMainWord (wordsSigns P.initOrder.toList) = "cut".toList :: r) (h1 : P.laysLater = false) (h2 : P.bearsReflect = false) (h3 : P.doorFits [] = true) : P.mayEnter = true := by
  unfold Program.mayEnter
  rw [h]
  simp only [strip_cut, h1, h2, h3]
  simp
theorem lift_of {P : Program} {r : List (List Char)} (h : behindMainWord (wordsSigns P.initOrder.toList) = "cut".toList :: r) : P.liftsFinal = false := by
  unfold Program.liftsFinal Program.headLifts
  rw [h]
  simp only [strip_cut]
  simp
theorem make_of {P : Program} {r : List (List Char)} (h : behindMainWord (wordsSigns P.initOrder.toList) = "cut".toList :: r) : P.make = some .cut := by
  unfold Program.make
  rw [h]
  simp
set_option maxRecDepth 100000 in
theorem k_take : (wordsSigns Tryd.prog.initOrder.toList).take 3 = ["harness".toList, "83b4f0ddff6e0be8e1a3f18a5d9e81adb2ff02da0aa5180331f33694692605af".toList, "cut".toList] := by
  refine take_of (show Tryd.prog.initOrder = String.ofList _ from rfl) ?_
  kernel_rfl
theorem k_sum : isSumSigns "83b4f0ddff6e0be8e1a3f18a5d9e81adb2ff02da0aa5180331f33694692605af".toList = true := by kernel_rfl
theorem k_main : Tryd.prog.mainIs = some (true, "83b4f0ddff6e0be8e1a3f18a5d9e81adb2ff02da0aa5180331f33694692605af".toList) := by
  obtain ⟨r, h⟩ := words3 k_take
  exact main_of h k_sum
theorem k_behind : ∃ r, behindMainWord (wordsSigns Tryd.prog.initOrder.toList) = "cut".toList :: r := by
  obtain ⟨r, h⟩ := words3 k_take
  exact ⟨r, behind_of h k_sum⟩
theorem k_later : Tryd.prog.laysLater = false := by kernel_rfl
theorem k_refl : Tryd.prog.bearsReflect = false := by kernel_rfl
theorem k_fits : Tryd.prog.doorFits [] = true := by kernel_rfl
theorem k_enter : Tryd.prog.mayEnter = true := by
  obtain ⟨r, h⟩ := k_behind
  exact enter_of h k_later k_refl k_fits
theorem k_lift : Tryd.prog.liftsFinal = false := by
  obtain ⟨r, h⟩ := k_behind
  exact lift_of h
theorem k_make : Tryd.prog.make = some .cut := by
  obtain ⟨r, h⟩ := k_behind
  exact make_of h
theorem k_laid : laidOutB Tryd.prog = true := by kernel_rfl
theorem k_maps : mapsRowed Tryd.prog = true := by kernel_rfl
theorem k_heard : Tryd.prog.stopsHeard = true := by kernel_rfl
end Go.Proofs.YtmdgkhebefnfeaaDoor.C
