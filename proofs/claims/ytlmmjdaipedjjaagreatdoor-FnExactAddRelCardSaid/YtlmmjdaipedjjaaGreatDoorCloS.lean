/- The model: what a third node leaves, TriangleRel, WhyTriangle. -/
import Derived.Test.YtlmmjdaipedjjaaGreatDoorCloM
import Derived.Test.YtlmmjdaipedjjaaGreatDoorNetY
import Derived.Test.YtlmmjdaipedjjaaGreatDoorNetO
namespace Go.Proofs.YtlmmjdaipedjjaaGreatDoor.C
open Go.RowKit
set_option linter.unusedVariables false
set_option linter.unusedSimpArgs false
def fl (n : Nat) (R : Nat → Nat → Nat) : Nat → Nat := fun x => R (x / n) (x % n)
theorem fl_at (n : Nat) (R : Nat → Nat → Nat) {i k : Nat} (hk : k < n) : fl n R (i * n + k) = R i k := by
  unfold fl; rw [(at_div hk).1, (at_div hk).2]
theorem ts_fl {w : World} {n b : Nat} {R : Nat → Nat → Nat} {u : Value} (h : w.ownsRow b 3 1 u (n * n) (rowL (fun x => R (x / n) (x % n)) (n * n))) : Ts w w.heap.size u (n * n) (fl n R) := Ts.of_own h
/-- A call that draws nothing, in a second region of one walk. -/
theorem calm_behind {P : Program} {f : FuncId} {args : Array Value} {w : World} {a n : Nat} {v : Value} (h : ∀ W : World, W = w.drewN (a + n) → Calls P f args W fun e w' => e = .returned v ∧ W = w') :
    Calls P f args (w.drewN (a + n)) fun e w'' => e = .returned v ∧ ∃ m, w'' = w.drewN (a + m) :=
  (h _ rfl).mono fun _ _ ⟨he, hm⟩ => ⟨he, n, hm.symm⟩
set_option maxHeartbeats 4000000 in
set_option maxRecDepth 100000 in
theorem l6Tri_any (o n : Nat) (h6 : n ≤ 6) (R : Nat → Nat → Nat) (hR : ∀ i k, R i k < 8192) (i k b : Nat) (hi : i < n) (hk : k < n) (hb : b < n) (u : Value) (w : World) (hC : TC w o) (ho : o < w.heap.size) (hT : Ts w w.heap.size u (n * n) (fl n R)) :
    Calls Tryz.prog 46 #[.slice (some ⟨o, 0, none⟩) 169 169, .agg #[.int .i64 n, u], .int .i64 i, .int .i64 k, .int .i64 b] w fun e w' => e = .returned (.int .i64 ((triN R i k b : Nat) : Int)) ∧ Below w.heap.size w w' := by
  obtain ⟨a, cap, rfl, hE⟩ := hT
  have l1 := at_lt hi hk
  have l2 := at_lt hi hb
  have l3 := at_lt hb hk
  obtain ⟨g, rfl, hg, c1⟩ := hE _ l1
  obtain ⟨g', e, _, c2⟩ := hE _ l2
  cases e
  obtain ⟨g', e, _, c3⟩ := hE _ l3
  cases e
  rw [fl_at n R hk] at c1 c3
  rw [fl_at n R hb] at c2
  have h36 : n * n ≤ 36 := Nat.mul_le_mul h6 h6
  have HB := hid ((Below.refl w.heap.size w).alloc (Nat.le_refl _) (.cells #[.int .i64 (n : Int), .slice (some ⟨g, 0, none⟩) (n * n) cap] 38))
  have HC := hid (show TC (w.alloc (.cells #[.int .i64 (n : Int), .slice (some ⟨g, 0, none⟩) (n * n) cap] 38)) o from fun x hx => (HB.out.cell (p := ⟨o, x, none⟩) ho).trans (hC x hx))
  have HTk := Tk.made w n (.slice (some ⟨g, 0, none⟩) (n * n) cap)
  have t0 := HTk.c0
  have t1 := HTk.c1
  have d1 := (HB.out.cell (p := ⟨g, i * n + k, none⟩) hg).trans c1
  have d2 := (HB.out.cell (p := ⟨g, i * n + b, none⟩) hg).trans c2
  have d3 := (HB.out.cell (p := ⟨g, b * n + k, none⟩) hg).trans c3
  have HV := hid (i64_and (R i k) (cmN (R i b) (R b k)) (hR i k) (cmN_lt _ _))
  have H1 := hid (hR i b)
  have H2 := hid (hR b k)
  clear hE c1 c2 c3 HTk hC ho hR
  obtain ⟨x, hx⟩ : ∃ x : Nat, x = i * n := ⟨_, rfl⟩
  obtain ⟨y, hy⟩ : ∃ y : Nat, y = b * n := ⟨_, rfl⟩
  have hmx : (i : Int) * (n : Int) = (x : Int) := by rw [hx]; push_cast; rfl
  have hmy : (b : Int) * (n : Int) = (y : Int) := by rw [hy]; push_cast; rfl
  rw [← hx] at l1 l2 d1 d2
  rw [← hy] at l3 d3
  clear hx hy
  generalize n * n = nn at *
  have x1 : IntKind.i64.wrap (x : Int) = (x : Int) := IntWalk.i64_in _ (by omega)
  have y1 : IntKind.i64.wrap (y : Int) = (y : Int) := IntWalk.i64_in _ (by omega)
  have x2 : IntKind.i64.wrap ((x : Int) + (k : Int)) = (x : Int) + (k : Int) := IntWalk.i64_in _ (by omega)
  have x3 : IntKind.i64.wrap ((x : Int) + (b : Int)) = (x : Int) + (b : Int) := IntWalk.i64_in _ (by omega)
  have y2 : IntKind.i64.wrap ((y : Int) + (k : Int)) = (y : Int) + (k : Int) := IntWalk.i64_in _ (by omega)
  have p1 : (0 : Int) ≤ (x : Int) + (k : Int) := by omega
  have p2 : (0 : Int) ≤ (x : Int) + (b : Int) := by omega
  have p3 : (0 : Int) ≤ (y : Int) + (k : Int) := by omega
  have q1 : (x : Int) + (k : Int) < (nn : Int) := by omega
  have q2 : (x : Int) + (b : Int) < (nn : Int) := by omega
  have q3 : (y : Int) + (k : Int) < (nn : Int) := by omega
  have z1 : ((x : Int) + (k : Int)).toNat = x + k := by omega
  have z2 : ((x : Int) + (b : Int)).toNat = x + b := by omega
  have z3 : ((y : Int) + (k : Int)).toNat = y + k := by omega
  have HS := AllLt.start w; go_enter Tryz.func46, Tryz.ntmps46
  go_upto_region 1 with fail
  generalize w.alloc (.cells #[.int .i64 (n : Int), .slice (some ⟨g, 0, none⟩) nn cap] 38) = w2 at *
  go_quiet (fail)
  go_upto_region 2 with fail
  have HCF := hid (show ∀ (m : Nat) (W : World), W = w2.drewN m → Calls Tryz.prog 63 #[.slice (some ⟨o, 0, none⟩) 169 169, .int .i64 ((R i b : Nat) : Int), .int .i64 ((R b k : Nat) : Int)] W fun e w' => e = .returned (.int .i64 ((cmN (R i b) (R b k) : Nat) : Int)) ∧ W = w' from fun m W e => l3Compose_any o (R i b) (R b k) H1.out H2.out W (by rw [e]; exact HC.out))
  go_quiet (first | (go_at_call 63; exact calm_behind (HCF.out _)))
  go_wp2
  go_ret
  exact ⟨ret_int HV.out, (by first | exact below_drewN' (below_drewN' HB.out _) _ | exact below_drewN' HB.out _)⟩
end Go.Proofs.YtlmmjdaipedjjaaGreatDoor.C
