/- Chapter 4's laws: composition of convex relations, closures, relations told by orders of ends. No program is named here. -/
import Derived.Test.YtmdgkhebefnfeaaDoorLatM
namespace Go.Proofs.YtmdgkhebefnfeaaDoor.C
open Go.RowKit
set_option linter.unusedVariables false
set_option linter.unusedSimpArgs false
def cvM : Nat := 886232860444735033169201591655159383419782093257917992764115536079621248215379981713636966495515936840841163945156281167179546321469202586874186095863895041854753434653757106273140464986929272217870071402612164351326609718007934847177936699386918804681472542419639938365001848582952156726153132342623577992273255976257758363136620017756025197760670907048425021142996502488672180094929253257257186115783609573820866905165566381520567387177090032704589621479827486573772043004608233022580101181873502988869631780207380144469836061051630441895280995626925505301118622022321765029160021812719513071425255378769478255099518424048817760797579993181932633789523342776661262362156783466352939344240058567432781359370484964275179295252128828553882352921517541666360190439594391060291591988493067022346654025953089090998287481474224736433721541051875585828187609827955180167242336807237717249589355389121599907273333144656157962710885360967767749275699807374860280875906004867730472584817871150300989730025908638667709401315745737402921043013493394090748883501133856334841101330612770939757882424363267300957309055399278926382768227192648309722173072433506523440672024070822095415993194081420629270623727142534889610924549816718348387188048342598283700695169819486303758691991163278606849042372091253939323199911635116519203460411564706082366073414970740073348139503223986545053555650795706153693359727028986680927179764267419510406021570156156079518217361652837470649901908067212848924681967653411101093625699225873425224834286849607182446084277554256303873132421219441973907998116196059398347813813058022249030716234433617661630073241273871705397371311586004736667168900469239676105246365977965237490202619968854924025179101186430739152643664488106636903200037433067638224248253836654388861329786971942301234033517996179059735380563008821824560119523970557491862332235056150175139613032338093338376256003428507054174538086855645189898383196855493144500391876145750678567500561548326638983520111017016574827350476170908503363081407298894001373627306334267401265445736324089511772476349018032140725202004734534554749576655613715579352424651913922574771386005417707923326984657542844182666158300997446169988363134772265717409692768374745203118749898894514039954462891168165928233615105762190781683955930060783977180061640252741063706424043602983734300620767727834330070519996740461772684462759960397734638768287355126096459202741166531261039973913135481345117423628924638843359
theorem cvM_on : ∀ x ∈ cvL, cvM.testBit x = true := by decide +kernel
theorem cvM_in {x : Nat} (h : x < 8192) (hb : cvM.testBit x = true) : x ∈ cvL := by
  have := all8192_of (p := fun x => !cvM.testBit x || cvL.contains x) (by decide +kernel) x h
  simpa [hb] using this
theorem cvM_iff {x : Nat} (h : x < 8192) : cvM.testBit x = true ↔ x ∈ cvL := ⟨cvM_in h, cvM_on x⟩
def rowsT (y : Nat) : List Nat := (List.range 13).map fun i => rowT i y
def cmR (x : Nat) (rs : List Nat) : Nat := orN (fun i => if x.testBit i then rs.getD i 0 else 0) 13
theorem cm_r (x y : Nat) : cmN x y = cmR x (rowsT y) := by
  refine Nat.eq_of_testBit_eq fun j => ?_
  rw [Bool.eq_iff_iff, cmN_test, cmR, orN_test]
  have hr : ∀ i, i < 13 → (rowsT y).getD i 0 = rowT i y := fun i hi => by simp [rowsT, hi]
  constructor
  · rintro ⟨i, k, hi, hk, h1, h2, h3⟩
    exact ⟨i, hi, by rw [if_pos h1, hr i hi, rowT_test]; exact ⟨k, hk, h2, h3⟩⟩
  · rintro ⟨i, hi, h⟩
    split at h
    · rename_i h1
      rw [hr i hi, rowT_test] at h
      obtain ⟨k, hk, h2, h3⟩ := h
      exact ⟨i, k, hi, hk, h1, h2, h3⟩
    · simp at h
def cvOk (y : Nat) : Bool := (fun rs => cvL.all fun x => cvM.testBit (cmR x rs)) (rowsT y)
theorem cv_c0 : ((cvL.take 21).all cvOk) = true := by decide +kernel
theorem cv_c1 : (((cvL.drop 21).take 21).all cvOk) = true := by decide +kernel
theorem cv_c2 : ((((cvL.drop 21).drop 21).take 21).all cvOk) = true := by decide +kernel
theorem cv_c3 : ((((cvL.drop 21).drop 21).drop 21).all cvOk) = true := by decide +kernel
theorem all_split {p : Nat → Bool} {l : List Nat} (n : Nat) (h : (l.take n).all p = true) (h' : (l.drop n).all p = true) : l.all p = true := by
  rw [← List.take_append_drop n l, List.all_append, h, h']; rfl
theorem cv_comp {x y : Nat} (hx : x ∈ cvL) (hy : y ∈ cvL) : cmN x y ∈ cvL := by
  have H := List.all_eq_true.1 (all_split 21 cv_c0 (all_split 21 cv_c1 (all_split 21 cv_c2 cv_c3))) y hy
  have := List.all_eq_true.1 H x hx
  rw [← cm_r] at this
  exact cvM_in (cmN_lt _ _) this
/-! Closures -/
theorem clos_sup (n : Nat) : subN n (closN n) := fun j hj h => (closN_test hj).2 ⟨j, hj, h, nearB_self j⟩
theorem clos_mono {a b : Nat} (h : subN a b) : subN (closN a) (closN b) := fun j hj hb => by
  obtain ⟨x, hx, h1, h2⟩ := (closN_test hj).1 hb
  exact (closN_test hj).2 ⟨x, hx, h x hx h1, h2⟩
theorem near_trans {a b c : Nat} (ha : a < 13) (hb : b < 13) (hc : c < 13) (h : nearB a b = true) (h' : nearB b c = true) : nearB a c = true := by
  have H : all13 (fun a => all13 fun b => all13 fun c => !(nearB a b && nearB b c) || nearB a c) = true := by decide +kernel
  have := all13_of (all13_of (all13_of H ha) hb) hc
  simpa [h, h'] using this
theorem clos_idem (n : Nat) : closN (closN n) = closN n := by
  refine subN_anti (closN_lt _) (closN_lt _) (fun j hj hb => ?_) (clos_sup _)
  obtain ⟨x, hx, h1, h2⟩ := (closN_test hj).1 hb
  obtain ⟨y, hy, h3, h4⟩ := (closN_test hx).1 h1
  exact (closN_test hj).2 ⟨y, hy, h3, near_trans hy hx hj h4 h2⟩
theorem clos_or (a b : Nat) : closN (a ||| b) = closN a ||| closN b := by
  refine set_ext (closN_lt _) (or_lt (closN_lt _) (closN_lt _)) fun j hj => ?_
  rw [Bool.eq_iff_iff, Nat.testBit_or, Bool.or_eq_true, closN_test hj, closN_test hj, closN_test hj]
  constructor
  · rintro ⟨x, hx, h1, h2⟩
    rw [Nat.testBit_or, Bool.or_eq_true] at h1
    exact h1.elim (fun h => .inl ⟨x, hx, h, h2⟩) fun h => .inr ⟨x, hx, h, h2⟩
  · rintro (⟨x, hx, h1, h2⟩ | ⟨x, hx, h1, h2⟩)
    · exact ⟨x, hx, by rw [Nat.testBit_or, h1, Bool.true_or], h2⟩
    · exact ⟨x, hx, by rw [Nat.testBit_or, h1, Bool.or_true], h2⟩
theorem near_tur {b c : Nat} (hb : b < 13) (hc : c < 13) : nearB (turF b) (turF c) = nearB b c := by
  have h : all13 (fun b => all13 fun c => nearB (turF b) (turF c) == nearB b c) = true := by decide +kernel
  simpa using all13_of (all13_of h hb) hc
theorem near_mir {b c : Nat} (hb : b < 13) (hc : c < 13) : nearB (miN b) (miN c) = nearB b c := by
  have h : all13 (fun b => all13 fun c => nearB (miN b) (miN c) == nearB b c) = true := by decide +kernel
  simpa using all13_of (all13_of h hb) hc
theorem clos_tur (n : Nat) : turN (closN n) = closN (turN n) := by
  refine set_ext (turN_lt _) (closN_lt _) fun j hj => ?_
  rw [turN_test hj, Bool.eq_iff_iff, closN_test (turF_lt hj), closN_test hj]
  constructor
  · rintro ⟨x, hx, h1, h2⟩
    exact ⟨turF x, turF_lt hx, by rw [turN_test (turF_lt hx), turF_inv hx]; exact h1, by rw [← near_tur (turF_lt hx) hj, turF_inv hx]; exact h2⟩
  · rintro ⟨x, hx, h1, h2⟩
    rw [turN_test hx] at h1
    exact ⟨turF x, turF_lt hx, h1, by rw [near_tur hx hj]; exact h2⟩
theorem clos_mir (n : Nat) : mirN (closN n) = closN (mirN n) := by
  refine set_ext (mirN_lt _) (closN_lt _) fun j hj => ?_
  rw [mirN_test hj, Bool.eq_iff_iff, closN_test (miN_lt hj), closN_test hj]
  constructor
  · rintro ⟨x, hx, h1, h2⟩
    exact ⟨miN x, miN_lt hx, by rw [mirN_test (miN_lt hx), miN_inv hx]; exact h1, by rw [← near_mir (miN_lt hx) hj, miN_inv hx]; exact h2⟩
  · rintro ⟨x, hx, h1, h2⟩
    rw [mirN_test hx] at h1
    exact ⟨miN x, miN_lt hx, h1, by rw [near_mir hx hj]; exact h2⟩
theorem near_dim {b c : Nat} (hb : b < 13) (hc : c < 13) (hn : c ≠ b) (h : nearB b c = true) : dimN c < dimN b := by
  have H : all13 (fun b => all13 fun c => c == b || !nearB b c || decide (dimN c < dimN b)) = true := by decide +kernel
  have := all13_of (all13_of H hb) hc
  simpa [h, hn] using this
theorem clos_one {b : Nat} (hb : b < 13) {j : Nat} (hj : j < 13) : (closN (2 ^ b)).testBit j = nearB b j := by
  rw [Bool.eq_iff_iff, closN_test hj]
  constructor
  · rintro ⟨x, hx, h1, h2⟩
    rw [Nat.testBit_two_pow] at h1
    have := of_decide_eq_true h1
    subst this; exact h2
  · intro h
    exact ⟨b, hb, Nat.testBit_two_pow_self, h⟩
/-- nearly convex -/
def PC (n : Nat) : Prop := closN n ∈ cvL
theorem clos_cv : ∀ x ∈ cvL, closN x ∈ cvL := by
  have H : ∀ x ∈ cvL, closT x ∈ cvL := by decide +kernel
  intro x hx
  rw [clos_t]; exact H x hx
theorem comp_base {i k : Nat} (hi : i < 13) (hk : k < 13) : subN (cmN (nearM.getD i 0) (nearM.getD k 0)) (closN (cmT i k)) := by
  have H : all13 (fun i => all13 fun k => closT (cmT i k) ||| cmN (nearM.getD i 0) (nearM.getD k 0) == closT (cmT i k)) = true := by decide +kernel
  have := all13_of (all13_of H hi) hk
  rw [clos_t]
  exact (subN_or (cmN_lt _ _) (closT_lt _)).2 (by simpa using this)
theorem cm_mono {a b c d : Nat} (h : subN a b) (h' : subN c d) : subN (cmN a c) (cmN b d) := fun j hj hb => by
  obtain ⟨i, k, hi, hk, h1, h2, h3⟩ := cmN_test.1 hb
  exact cmN_test.2 ⟨i, k, hi, hk, h i hi h1, h' k hk h2, h3⟩
theorem comp_clos (r s : Nat) : subN (cmN (closN r) (closN s)) (closN (cmN r s)) := fun j hj hb => by
  obtain ⟨i, k, hi, hk, h1, h2, h3⟩ := cmN_test.1 hb
  obtain ⟨i0, hi0, g1, g2⟩ := (closN_test hi).1 h1
  obtain ⟨k0, hk0, g3, g4⟩ := (closN_test hk).1 h2
  have hm : (cmN (nearM.getD i0 0) (nearM.getD k0 0)).testBit j = true := cmN_test.2 ⟨i, k, hi, hk, by rw [near_base hi0 hi]; exact g2, by rw [near_base hk0 hk]; exact g4, h3⟩
  exact clos_mono (fun q hq hb2 => cmN_test.2 ⟨i0, k0, hi0, hk0, g1, g3, hb2⟩) j hj (comp_base hi0 hk0 j hj hm)
theorem pc_comp {r s : Nat} (hr : PC r) (hs : PC s) : PC (cmN r s) := by
  have e : closN (cmN r s) = closN (cmN (closN r) (closN s)) := by
    refine subN_anti (closN_lt _) (closN_lt _) (clos_mono (cm_mono (clos_sup r) (clos_sup s))) ?_
    have := clos_mono (comp_clos r s)
    rw [clos_idem] at this
    exact this
  unfold PC
  rw [e]
  exact clos_cv _ (cv_comp hr hs)
theorem pc_cv {x : Nat} (h : x ∈ cvL) : PC x := clos_cv x h
theorem pc_tur' {n : Nat} (h : PC n) : PC (turN n) := by unfold PC; rw [← clos_tur]; exact cvL_tur _ h
theorem pc_tur {n : Nat} (hn : n < 8192) : PC (turN n) ↔ PC n := ⟨fun h => by have := pc_tur' h; rwa [tt_n hn] at this, pc_tur'⟩
theorem pc_mir' {n : Nat} (h : PC n) : PC (mirN n) := by unfold PC; rw [← clos_mir]; exact cvL_mir _ h
theorem pc_mir {n : Nat} (hn : n < 8192) : PC (mirN n) ↔ PC n := ⟨fun h => by have := pc_mir' h; rwa [mm_n hn] at this, pc_mir'⟩
/-! Hulls by half sets, for what is tried on all sets -/
theorem halfT_snd {n j : Nat} : ∀ (l : List Nat) (a : Nat), (l.foldl (fun a s => if n &&& s == n then a &&& s else a) a).testBit j = true ↔ a.testBit j = true ∧ ∀ s ∈ l, n &&& s = n → s.testBit j = true
  | [], a => by simp
  | x :: l, a => by
    simp only [List.foldl_cons]
    rw [halfT_snd l]
    by_cases h : n &&& x = n
    · have hb : (n &&& x == n) = true := by simpa using h
      rw [if_pos hb, Nat.testBit_and, Bool.and_eq_true]
      constructor
      · rintro ⟨⟨h1, h2⟩, h3⟩
        exact ⟨h1, fun s hs => by
          rcases List.mem_cons.1 hs with rfl | hs
          · exact fun _ => h2
          · exact h3 s hs⟩
      · rintro ⟨h1, h2⟩
        exact ⟨⟨h1, h2 x (by simp) h⟩, fun s hs => h2 s (List.mem_cons_of_mem _ hs)⟩
    · have hb : ¬ (n &&& x == n) = true := by simpa using h
      rw [if_neg hb]
      constructor
      · rintro ⟨h1, h2⟩
        exact ⟨h1, fun s hs e => by
          rcases List.mem_cons.1 hs with rfl | hs
          · exact absurd e h
          · exact h2 s hs e⟩
      · rintro ⟨h1, h2⟩
        exact ⟨h1, fun s hs => h2 s (List.mem_cons_of_mem _ hs)⟩
def halfs : List Nat := [1, 3, 31, 255, 391, 975, 2047, 4095, 4096, 6144, 7216, 7800, 7936, 8160, 8188, 8190]
def hullT (n : Nat) : Nat := halfs.foldl (fun a s => if n &&& s == n then a &&& s else a) 8191
theorem hullT_lt (n : Nat) : hullT n < 8192 := by
  have : hullT n ≤ 8191 := by
    unfold hullT
    have key : ∀ (l : List Nat) (a : Nat), l.foldl (fun a s => if n &&& s == n then a &&& s else a) a ≤ a := by
      intro l
      induction l with
      | nil => intro a; exact Nat.le_refl _
      | cons x l ih =>
        intro a
        simp only [List.foldl_cons]
        split
        · exact Nat.le_trans (ih _) Nat.and_le_left
        · exact ih _
    exact key _ _
  omega
theorem halfs_cv : ∀ s ∈ halfs, s ∈ cvL := by decide +kernel
theorem cvL_hullT : ∀ x ∈ cvL, hullT x = x := by decide +kernel
theorem and_sub {n s : Nat} (hn : n < 8192) : n &&& s = n ↔ subN n s := by
  constructor
  · intro h j hj hb
    rw [← h, Nat.testBit_and, Bool.and_eq_true] at hb
    exact hb.2
  · intro h
    have hl : n &&& s < 8192 := Nat.lt_of_le_of_lt Nat.and_le_left hn
    refine set_ext hl hn fun j hj => ?_
    rw [Bool.eq_iff_iff, Nat.testBit_and, Bool.and_eq_true]
    exact ⟨fun h => h.1, fun hb => ⟨hb, h j hj hb⟩⟩
theorem ones_test {j : Nat} (h : j < 13) : (8191 : Nat).testBit j = true := by
  rcases nat13 h with rfl | rfl | rfl | rfl | rfl | rfl | rfl | rfl | rfl | rfl | rfl | rfl | rfl <;> decide
theorem hull_t {n : Nat} (hn : n < 8192) : hull n = hullT n := by
  refine subN_anti (hull_lt _) (hullT_lt _) (fun j hj hb => ?_) fun j hj hb => ?_
  · exact (halfT_snd _ _).2 ⟨ones_test hj, fun s hs e => hull_least ((and_sub hn).1 e) (halfs_cv s hs) j hj hb⟩
  · have h2 := (halfT_snd _ _).1 hb
    have h3 : (hullT (hull n)).testBit j = true := (halfT_snd _ _).2 ⟨h2.1, fun s hs e => h2.2 s hs ((and_sub hn).2 fun i hi hb => (and_sub (hull_lt n)).1 e i hi (hull_sup n i hi hb))⟩
    rwa [cvL_hullT _ (hull_in n)] at h3
def pcT (n : Nat) : Bool := cvM.testBit (closT n)
theorem pc_t (n : Nat) : PC n ↔ pcT n = true := by
  unfold PC pcT
  rw [← clos_t, cvM_iff (closN_lt n)]
end Go.Proofs.YtmdgkhebefnfeaaDoor.C
