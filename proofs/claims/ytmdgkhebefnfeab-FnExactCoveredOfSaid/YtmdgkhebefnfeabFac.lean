/- What the statements' form asks of the whole program, shown once for the seat: each as one small declaration, for the kernel reads the program's long word letter by letter. -/
import Derived.Test.YtmdgkhebefnfeabRows
import Derived.JoinedOf
import Derived.KernelRfl
namespace Go.Proofs.Ytmdgkhebefnfeab.C
open Go
theorem take_of {s : String} {l : List Char} {r : List (List Char)} (h : s = String.ofList l) (k : (wordsSigns l).take 3 = r) : (wordsSigns s.toList).take 3 = r := by rw [h, String.toList_ofList]; exact k
theorem words3 {l : List (List Char)} {a b c : List Char} (h : l.take 3 = [a, b, c]) : ∃ r, l = a :: b :: c :: r := by
  match l, h with
  | x :: y :: z :: r, h => simp at h; obtain ⟨rfl, rfl, rfl⟩ := h; exact ⟨r, rfl⟩
  | [], h => simp at h
  | [x], h => simp at h
  | [x, y], h => simp at h
theorem strip_cut (r : List (List Char)) : stripLifts liftWords ("cut".toList :: r) = ([], "cut".toList :: r) := by kernel_rfl
theorem main_of {P : Program} {s c : List Char} {r : List (List Char)} (h : wordsSigns P.initOrder.toList = "harness".toList :: s :: c :: r) (hs : isSumSigns s = true) : P.mainIs = some (true, s) := by
  unfold Program.mainIs
  rw [h]
  simp [hs]
theorem behind_of {P : Program} {s : List Char} {r : List (List Char)} (h : wordsSigns P.initOrder.toList = "harness".toList :: s :: "cut".toList :: r) (hs : isSumSigns s = true) : behindMainWord (wordsSigns P.initOrder.toList) = "cut".toList :: r := by
  rw [h]
  unfold behindMainWord
  simp [hs]
theorem enter_of {P : Program} {r : List (List Char)} (h : behindMainWord (wordsSigns P.initOrder.toList) = "cut".toList :: r) (h1 : P.laysLater = false) (h2 : P.bearsReflect = false) (h3 : P.doorFits [] = true) : P.mayEnter = true := by
  unfold Program.mayEnter
  rw [h]
  simp only [strip_cut, h1, h2, h3]
  simp
theorem lift_of {P : Program} {r : List (List Char)} (h : behindMainWord (wordsSigns P.initOrder.toList) = "cut".toList :: r) : P.liftsFinal = false := by
  unfold Program.liftsFinal Program.headLifts
  rw [h]
  simp only [strip_cut]
  simp
theorem make_of {P : Program} {r : List (List Char)} (h : behindMainWord (wordsSigns P.initOrder.toList) = "cut".toList :: r) : P.make = some .cut := by
  unfold Program.make
  rw [h]
  simp
set_option maxRecDepth 100000 in
theorem k_take : (wordsSigns Try.prog.initOrder.toList).take 3 = ["harness".toList, "183ee5411193ef40dea2c0383750ba26ce62a1c32218b5d5de71d3baf0471011".toList, "cut".toList] := by
  refine take_of (show Try.prog.initOrder = String.ofList _ from rfl) ?_
  kernel_rfl
theorem k_sum : isSumSigns "183ee5411193ef40dea2c0383750ba26ce62a1c32218b5d5de71d3baf0471011".toList = true := by kernel_rfl
theorem k_main : Try.prog.mainIs = some (true, "183ee5411193ef40dea2c0383750ba26ce62a1c32218b5d5de71d3baf0471011".toList) := by
  obtain ⟨r, h⟩ := words3 k_take
  exact main_of h k_sum
theorem k_behind : ∃ r, behindMainWord (wordsSigns Try.prog.initOrder.toList) = "cut".toList :: r := by
  obtain ⟨r, h⟩ := words3 k_take
  exact ⟨r, behind_of h k_sum⟩
theorem k_later : Try.prog.laysLater = false := by kernel_rfl
theorem k_refl : Try.prog.bearsReflect = false := by kernel_rfl
theorem k_fits : Try.prog.doorFits [] = true := by kernel_rfl
theorem k_enter : Try.prog.mayEnter = true := by
  obtain ⟨r, h⟩ := k_behind
  exact enter_of h k_later k_refl k_fits
theorem k_lift : Try.prog.liftsFinal = false := by
  obtain ⟨r, h⟩ := k_behind
  exact lift_of h
theorem k_make : Try.prog.make = some .cut := by
  obtain ⟨r, h⟩ := k_behind
  exact make_of h
theorem k_laid : laidOutB Try.prog = true := by kernel_rfl
theorem k_maps : mapsRowed Try.prog = true := by kernel_rfl
theorem k_heard : Try.prog.stopsHeard = true := by kernel_rfl
end Go.Proofs.Ytmdgkhebefnfeab.C
