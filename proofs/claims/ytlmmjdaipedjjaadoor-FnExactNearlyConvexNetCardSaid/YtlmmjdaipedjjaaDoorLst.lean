/- Chapter 4: zones and basic relations that are near or next; lists of basic relations. -/
import Derived.Test.YtlmmjdaipedjjaaDoorLatP
import Derived.Test.YtlmmjdaipedjjaaDoorRel
import Derived.OwnWalk
import Derived.Deep.AppendLies
import Derived.Laws.AppendOwn
import Derived.Lib.SliceRun
namespace Go.Proofs.YtlmmjdaipedjjaaDoor.C
open Go.RowKit
set_option linter.unusedVariables false
set_option linter.unusedSimpArgs false
theorem isEnd_any (z : Int) (w : World) :
    Calls Tryd.prog 170 #[.int .i64 z] w fun e w' => e = .returned (.bool (decide (z = 1) || decide (z = 3))) ∧ w = w' := by
  by_cases h : z = 1
  · subst h
    have HS := AllLt.start w; go_enter Tryd.func170, Tryd.ntmps170
    go_wp2
    go_ret
    exact ⟨rfl, rfl⟩
  · have b : (z == 1) = false := by simpa using h
    have HS := AllLt.start w; go_enter Tryd.func170, Tryd.ntmps170
    go_wp2
    go_ret
    exact ⟨ret_bool (by rw [Bool.eq_iff_iff]; simp [h]), rfl⟩
theorem isBeside_any (z y : Int) (hy : 0 ≤ y ∧ y ≤ 4) (w : World) :
    Calls Tryd.prog 171 #[.int .i64 z, .int .i64 y] w fun e w' => e = .returned (.bool (besZ z y)) ∧ w = w' := by
  obtain ⟨y1, y2⟩ := hy
  by_cases h : z = y - 1
  · have b : (z == y - 1) = true := by simpa using h
    have HS := AllLt.start w; go_enter Tryd.func171, Tryd.ntmps171
    go_wp2
    go_ret
    exact ⟨ret_bool (by simp [besZ, h]), rfl⟩
  · have b : (z == y - 1) = false := by simpa using h
    have HS := AllLt.start w; go_enter Tryd.func171, Tryd.ntmps171
    go_wp2
    go_ret
    exact ⟨ret_bool (by rw [Bool.eq_iff_iff]; simp [besZ, h]), rfl⟩
theorem zNear_any (z y : Int) (hy : 0 ≤ y ∧ y ≤ 4) (w : World) :
    Calls Tryd.prog 165 #[.int .i64 z, .int .i64 y] w fun e w' => e = .returned (.bool (nearZ z y)) ∧ w = w' := by
  by_cases h : z = y
  · have b : (z == y) = true := by simpa using h
    have HS := AllLt.start w; go_enter Tryd.func165, Tryd.ntmps165
    go_wp2_with fail
    go_ret
    exact ⟨ret_bool (by simp [nearZ, h]), rfl⟩
  · have b : (z == y) = false := by simpa using h
    cases he : (decide (z = 1) || decide (z = 3))
    · have HE := hid he
      have HN := hid (show nearZ z y = false by simp [nearZ, h, he])
      clear he
      have HS := AllLt.start w; go_enter Tryd.func165, Tryd.ntmps165
      go_wp2_with (first | (go_at_call 170; (with_reducible refine (isEnd_any _ _).mono ?_); rintro e w' ⟨rfl, rfl⟩; rw [HE.out]))
      go_ret
      exact ⟨ret_bool HN.out.symm, rfl⟩
    · have HE := hid he
      have HN := hid (show nearZ z y = besZ z y by simp [nearZ, besZ, h, he])
      clear he
      have HS := AllLt.start w; go_enter Tryd.func165, Tryd.ntmps165
      go_wp2_with (first | (go_at_call 170; (with_reducible refine (isEnd_any _ _).mono ?_); rintro e w' ⟨rfl, rfl⟩; rw [HE.out]) | (go_at_call 171; (with_reducible refine (isBeside_any _ _ hy _).mono ?_); rintro e w' ⟨rfl, rfl⟩))
      go_ret
      exact ⟨ret_bool HN.out.symm, rfl⟩
theorem bNear_any (c b : Nat) (hc : c < 13) (hb : b < 13) (w : World) (hT : TB w) :
    Calls Tryd.prog 148 #[.int .i64 c, .int .i64 b] w fun e w' => e = .returned (.bool (nearB b c)) ∧ ∃ n, w' = w.drewN n := by
  have HT := hid hT
  clear hT
  have HC := zones_any c hc
  have HD := zones_any b hb
  have z1 := zf_in hb
  have z2 := zt_in hb
  have HP : Hid (nearB b c = (nearZ (zf c) (zf b) && nearZ (zt c) (zt b))) := hid rfl
  generalize zf c = x at *
  generalize zt c = y at *
  generalize zf b = x' at *
  generalize zt b = y' at *
  have HC' := hid HC
  have HD' := hid HD
  clear HC HD
  cases q : nearZ x x'
  · have HQ := hid q
    have HR := hid (show nearB b c = false by rw [HP.out, q]; rfl)
    clear q HP
    have HS := AllLt.start w; go_enter Tryd.func148, Tryd.ntmps148
    go_wp2_with (first | (go_at_call 150; (with_reducible refine (HC'.out _ HT.out).mono ?_); rintro e w' ⟨rfl, n, rfl⟩) | (go_at_call 150; (with_reducible refine (HD'.out _ (HT.out.drewN _)).mono ?_); rintro e w' ⟨rfl, n, rfl⟩) | (go_at_call 165; (with_reducible refine (zNear_any x x' z1 _).mono ?_); rintro e w' ⟨rfl, rfl⟩; rw [HQ.out]))
    go_ret
    exact ⟨ret_bool HR.out.symm, by exact ⟨_, rfl⟩⟩
  · have HQ := hid q
    have HR := hid (show nearB b c = nearZ y y' by rw [HP.out, q]; rfl)
    clear q HP
    have HS := AllLt.start w; go_enter Tryd.func148, Tryd.ntmps148
    go_wp2_with (first | (go_at_call 150; (with_reducible refine (HC'.out _ HT.out).mono ?_); rintro e w' ⟨rfl, n, rfl⟩) | (go_at_call 150; (with_reducible refine (HD'.out _ (HT.out.drewN _)).mono ?_); rintro e w' ⟨rfl, n, rfl⟩) | (go_at_call 165; (with_reducible refine (zNear_any x x' z1 _).mono ?_); rintro e w' ⟨rfl, rfl⟩; rw [HQ.out]) | (go_at_call 165; (with_reducible refine (zNear_any y y' z2 _).mono ?_); rintro e w' ⟨rfl, rfl⟩))
    go_ret
    exact ⟨ret_bool HR.out.symm, by exact ⟨_, rfl⟩⟩
end Go.Proofs.YtlmmjdaipedjjaaDoor.C
