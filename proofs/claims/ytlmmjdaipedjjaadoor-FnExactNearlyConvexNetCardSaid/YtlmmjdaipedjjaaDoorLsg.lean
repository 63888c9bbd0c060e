/- Chapter 4: copies of lists, what is in them, lists grown by what is around; closures, neighbors, steps. -/
import Derived.Test.YtlmmjdaipedjjaaDoorLsb
import Derived.Lib.Walk
namespace Go.Proofs.YtlmmjdaipedjjaaDoor.C
open Go.RowKit
set_option linter.unusedVariables false
set_option linter.unusedSimpArgs false
def inL (l : List Nat) (x : Nat) : Bool := decide (x ∈ l)
theorem takeN (l : List Nat) (i : Nat) (h : i < l.length) : l.take (i + 1) = l.take i ++ [l.getD i 0] := by
  rw [List.take_succ_eq_append_getElem h]
  simp [List.getElem?_eq_getElem h]
theorem getN_mem {l : List Nat} {i : Nat} (h : i < l.length) : l.getD i 0 ∈ l := by
  rw [List.getD_eq_getElem?_getD, List.getElem?_eq_getElem h]
  exact List.getElem_mem h
theorem nodup_growL {f : Nat → List Nat} : ∀ {l all : List Nat}, all.Nodup → (growL f l all).Nodup
  | [], all, h => h
  | x :: l, all, h => nodup_growL (l := l) (nodup_addAll h)
theorem grow_take {f : Nat → List Nat} {l all : List Nat} {k : Nat} (hk : k < l.length) : growL f (l.take (k + 1)) all = addAll (growL f (l.take k) all) (f (l.getD k 0)) := by
  rw [takeN l k hk, growL_snoc]
theorem add_take {ys all : List Nat} {k : Nat} (hk : k < ys.length) : addAll all (ys.take (k + 1)) = if inL (addAll all (ys.take k)) (ys.getD k 0) then addAll all (ys.take k) else addAll all (ys.take k) ++ [ys.getD k 0] := by
  rw [takeN ys k hk, addAll_snoc]
  simp [inL]
/-- A slice whose elements are l, in a block from B on. -/
theorem Bs.ls2 {w : World} {B : Nat} {v : Value} {l : List Nat} (h : Bs w B v l) :
    ∃ a cap, v = .slice a l.length cap ∧ ∀ i, i < l.length → ∃ g, a = some ⟨g, 0, none⟩ ∧ B ≤ g ∧ g < w.heap.size ∧ w.cell? ⟨g, i, none⟩ = some (.int .i64 ((l.getD i 0 : Nat) : Int)) := by
  have h0 := h
  rcases h.2 with ⟨rfl, hn⟩ | ⟨g, cap, cur, rfl, hB, hg, h1, h2, h3, h4⟩
  · exact ⟨none, 0, by rw [hn], fun i hi => by omega⟩
  · exact ⟨_, cap, rfl, fun i hi => ⟨g, rfl, hB, (Array.getElem?_eq_some_iff.1 hg).1, own_at h0 hi⟩⟩
theorem ls_news {w : World} {ad : Addr} {l : List Nat} (h : ∀ i, i < l.length → ∃ g, some ad = some (⟨g, 0, none⟩ : Addr) ∧ g < w.heap.size ∧ w.cell? ⟨g, i, none⟩ = some (.int .i64 ((l.getD i 0 : Nat) : Int))) :
    ∀ j u, (l.map fun k => Value.int .i64 ((k : Nat) : Int))[j]? = some u → w.cell? (ad.add j) = some u := by
  intro j u hj
  have hjl : j < l.length := by
    have := (List.getElem?_eq_some_iff.1 hj).1
    simpa using this
  obtain ⟨g, hg, _, hc⟩ := h j hjl
  obtain rfl := Option.some.inj hg
  have ha : (⟨g, 0, none⟩ : Addr).add j = ⟨g, j, none⟩ := by unfold Addr.add; split <;> simp_all
  rw [ha, hc, ← hj]
  simp [hjl]
theorem clone_any (v : Value) (l : List Nat) (w : World) (h : Ls w v l) (hl : l.length ≤ 13) :
    Calls Tryd.prog 145 #[v] w fun e w' => ∃ v', e = .returned v' ∧ Bs w' w.heap.size v' l ∧ Below w.heap.size w w' := by
  obtain ⟨a, cap, rfl, hle, hnone, h3⟩ := h
  obtain ⟨i0, hi0, hz0, hz1, hz2⟩ := info_parts bscInfo
  have q22 : ∀ (w : World) (a : Option Addr) (n c n' c' : Nat), (binOp .eql 142 (.slice a n c) (.slice none n' c')).run Tryd.prog w = .ok (.bool a.isNone) w := fun w a n c n' c' => Lib.run_eql_slice_nil w _ _ a n c n' c' Tryd.underlying142
  cases a with
  | none =>
    obtain ⟨h0, rfl⟩ := hnone rfl
    obtain rfl := List.eq_nil_of_length_eq_zero h0
    clear h3 hnone hle hl
    have HS := AllLt.start w; go_enter Tryd.func145, Tryd.ntmps145
    go_wp2
    go_ret
    exact ⟨_, rfl, World.ownsRow_nil _ _ _ _, Below.refl _ _⟩
  | some ad =>
    have HN := hid (ls_news h3)
    clear h3 hnone
    have HS := AllLt.start w; go_enter Tryd.func145, Tryd.ntmps145
    go_wp2_with (at_builtin; refine wpList_append_own _ rfl _ _ 142 rfl w.heap.size 111 i0 _ 1 8 Tryd.underlying142 hi0 hz0 hz1 hz2 rfl (by decide) _ _ _ rfl (World.ownsRow_made w #[] 0 (Nat.le_refl _) (Nat.zero_le _) rfl) ad l.length cap (l.map fun k => Value.int .i64 ((k : Nat) : Int)) rfl ?c1 ?c2 ?c3 ?c4 ?c5 ?c6 ?_)
    case c1 => simp
    case c2 => exact fun j u hj => Lib.cell?_alloc_some _ (HN.out j u hj)
    case c3 => intro u hu; obtain ⟨x, _, rfl⟩ := List.mem_map.1 hu; rfl
    case c4 => unfold maxLen; omega
    case c5 => omega
    case c6 => simp
    intro v' w1 hown hgrow hnil
    go_wp2
    go_ret
    refine ⟨v', rfl, by simpa [Bs] using hown, ?_⟩
    exact ((Below.refl _ w).alloc (Nat.le_refl _) _).grown hgrow (by simp) (by intro k hk; simp [Value.ownBlock] at hk; omega)
set_option maxHeartbeats 1000000 in
theorem index_any (v : Value) (l : List Nat) (x : Nat) (w : World) (h : Ls w v l) (hl : l.length ≤ 13) :
    Calls Tryd.prog 164 #[v, .int .i64 x] w fun e w' => (∃ q : Int, e = .returned (.int .i64 q) ∧ decide (0 ≤ q) = inL l x) ∧ w = w' := by
  obtain ⟨a, cap, rfl, hle, hnone, h3⟩ := h
  have H3 := hid h3
  clear h3 hnone
  have HS := AllLt.start w; go_enter Tryd.func164, Tryd.ntmps164
  go_wp2
  go_loop [8] (fun v => ∃ k : Nat, k ≤ l.length ∧ v = .int .i64 k ∧ Hid (∀ j, j < k → l.getD j 0 ≠ x)) (fun v => l.length - (intOf v).toNat)
  case atStart => exact ⟨0, by omega, rfl, hid (fun j hj => by omega)⟩
  case round =>
    obtain ⟨k, hk, rfl, HF⟩ := hrel
    clear HS
    by_cases hlt : k < l.length
    · have hdi : decide ((k : Int) < (l.length : Int)) = true := by simp; omega
      have hdj : decide (k < l.length) = true := by simp; omega
      obtain ⟨g, rfl, hg, hc⟩ := H3.out k hlt
      have hm := getN_mem hlt
      have HS2 : Hid (∀ y, l.getD k 0 = y → y ≠ x → ∀ j, j < k + 1 → l.getD j 0 ≠ x) := hid (fun y hy hne j hj => by
        by_cases ej : j = k
        · rw [ej, hy]; exact hne
        · exact HF.out j (by omega))
      clear HF
      have hs3 := HS2.out _ rfl
      generalize l.getD k 0 = y at *
      by_cases e : y = x
      · have hq : ((x : Int) == ((y : Nat) : Int)) = true := by rw [e]; simp
        have HR : Hid (inL l x = true) := hid (by rw [← e]; exact decide_eq_true hm)
        clear e hs3 HS2
        go_wp2
        go_ret
        exact ⟨⟨_, rfl, by rw [HR.out]; simp⟩, rfl⟩
      · have hq : ((x : Int) == ((y : Nat) : Int)) = false := by rw [beq_eq_false_iff_ne]; omega
        have HF2 := hid (hs3 e)
        clear e hs3 HS2
        go_wp2
        go_round
        case rel => exact ⟨k + 1, by omega, by go_num, HF2⟩
        case measure => simp [intOf]; omega
    · obtain rfl : k = l.length := by omega
      have hdi : decide ((l.length : Int) < (l.length : Int)) = false := by simp
      have HR : Hid (inL l x = false) := hid (decide_eq_false fun hm => by
        obtain ⟨j, hj, e⟩ := List.getElem_of_mem hm
        exact HF.out j hj (by rw [List.getD_eq_getElem?_getD, List.getElem?_eq_getElem hj]; exact e))
      clear HF
      go_wp2
      go_ret
      exact ⟨⟨_, rfl, by rw [HR.out]; simp⟩, rfl⟩
theorem contains_any (v : Value) (l : List Nat) (x : Nat) (w : World) (h : Ls w v l) (hl : l.length ≤ 13) :
    Calls Tryd.prog 144 #[v, .int .i64 x] w fun e w' => e = .returned (.bool (inL l x)) ∧ w = w' := by
  have HI := hid (index_any v l x w h hl)
  clear h
  generalize inL l x = r at *
  have HS := AllLt.start w; go_enter Tryd.func144, Tryd.ntmps144
  go_wp2_with (first | (go_at_call 164; refine HI.out.mono ?_; rintro e w' ⟨⟨q, rfl, hq⟩, rfl⟩))
  go_ret
  exact ⟨rfl, rfl⟩
set_option maxHeartbeats 2000000 in
theorem grown_near (v : Value) (l : List Nat) (w : World) (h : Ls w v l) (hnd : l.Nodup) (hlt : ∀ x ∈ l, x < 13) (hT : TB w) :
    Calls Tryd.prog 122 #[v, .func (.func 124) #[] #[]] w fun e w' => ∃ v', e = .returned v' ∧ Bs w' w.heap.size v' (growL (fun b => bl (nearB b) 13) l l) ∧ Below w.heap.size w w' := by
  have HT := hid hT
  clear hT
  have hl13 := len13 hnd hlt
  have HC := hid (clone_any v l w h hl13)
  obtain ⟨a, cap, rfl, hle, hnone, h3⟩ := h
  have H3 := hid h3
  have HG : ∀ k, ∀ z ∈ growL (fun b => bl (nearB b) 13) (l.take k) l, z < 13 := fun k z hz => by
    rcases mem_growL.1 hz with h | ⟨x, _, h⟩
    · exact hlt z h
    · exact (bl_mem.1 h).1
  have HGN : ∀ k, (growL (fun b => bl (nearB b) 13) (l.take k) l).Nodup := fun k => nodup_growL hnd
  have HGA := hid HG
  have HGB := hid HGN
  clear h3 hnone HG HGN
  obtain ⟨i0, hi0, hz0, hz1, hz2⟩ := info_parts bscInfo
  have HS := AllLt.start w; go_enter Tryd.func122, Tryd.ntmps122
  go_wp2_with fail
  refine HC.out.mono ?_
  rintro e w1 ⟨v1, rfl, ho1, hb1⟩
  have HO1 := hid ho1
  have HB1 := hid hb1
  clear ho1 hb1 HC
  go_wp2
  go_loopw [5, 14] (fun v i wr => ∃ (k : Nat) (all : Value), all = v ∧ k ≤ l.length ∧ i = .int .i64 k ∧ Hid (Bs wr w.heap.size all (growL (fun b => bl (nearB b) 13) (l.take k) l)) ∧ Hid (Below w.heap.size w wr)) (fun _ i _ => l.length - (intOf i).toNat)
  case atStart => exact ⟨0, _, rfl, by omega, rfl, HO1, HB1⟩
  case round =>
    obtain ⟨k, all, rfl, hk, rfl, HO, HB⟩ := hrel
    clear HS HO1 HB1
    obtain ⟨wo, rfl⟩ : ∃ wo : World, wo = wr := ⟨_, rfl⟩
    by_cases hkl : k < l.length
    · have hdi : decide ((k : Int) < (l.length : Int)) = true := by simp; omega
      have hdj : decide (k < l.length) = true := by simp; omega
      obtain ⟨g, rfl, hg, hc0⟩ := H3.out k hkl
      have hc : wo.cell? ⟨g, k, none⟩ = some (.int .i64 ((l.getD k 0 : Nat) : Int)) := by rw [HB.out.cell (p := ⟨g, k, none⟩) hg]; exact hc0
      have hx13 : l.getD k 0 < 13 := hlt _ (getN_mem hkl)
      have HGT := hid (grow_take (f := fun b => bl (nearB b) 13) (all := l) hkl)
      have hg13 := HGA.out k
      have hgn := HGB.out k
      generalize l.getD k 0 = x at *
      generalize growL (fun b => bl (nearB b) 13) (l.take k) l = cur at *
      have HA := hid hg13
      have HD := hid hgn
      clear hg13 hgn hc0
      go_wp2_with (first | (go_at_call 124; (with_reducible refine (near_any x hx13 _ (HT.out.below HB.out)).mono ?_); rintro e w2 ⟨vn, rfl, hon, hbn⟩; obtain ⟨an, capn, rfl, hn3⟩ := hon.ls2))
      have hys : ∀ z ∈ bl (nearB x) 13, z < 13 := fun z hz => (bl_mem.1 hz).1
      have hyl := bl_len (nearB x) 13
      generalize bl (nearB x) 13 = ys at *
      have HY := hid hys
      have HN0 : Hid (Bs w2 w.heap.size all cur ∧ (∀ q, all.ownBlock = some q → an ≠ some ⟨q, 0, none⟩ ∨ ys.length = 0) ∧ (∀ i, i < ys.length → ∃ g, an = some ⟨g, 0, none⟩ ∧ g < w2.heap.size ∧ w2.cell? ⟨g, i, none⟩ = some (.int .i64 ((ys.getD i 0 : Nat) : Int))) ∧ Below w.heap.size w w2) := hid
        ⟨own_below HO.out hbn, fun q hq => by
          by_cases hz : ys.length = 0
          · exact .inr hz
          · obtain ⟨gn, e1, e2, _⟩ := hn3 0 (by omega)
            have := (HO.out.lt q hq).2
            exact .inl (fun e => by rw [e1] at e; simp at e <;> omega),
         fun i hi => by obtain ⟨gn, e1, e2, e3, e4⟩ := hn3 i hi; exact ⟨gn, e1, e3, e4⟩, HB.out.trans (hbn.mono HB.out.size)⟩
      clear hon hn3 hbn hys HO HB
      go_wp2
      go_loopw [5, 22] (fun v j wr => ∃ (m : Nat) (all : Value), all = v ∧ m ≤ ys.length ∧ j = .int .i64 m ∧ Hid (Bs wr w.heap.size all (addAll cur (ys.take m)) ∧ (∀ q, all.ownBlock = some q → an ≠ some ⟨q, 0, none⟩ ∨ ys.length = 0) ∧ (∀ i, i < ys.length → ∃ g, an = some ⟨g, 0, none⟩ ∧ g < wr.heap.size ∧ wr.cell? ⟨g, i, none⟩ = some (.int .i64 ((ys.getD i 0 : Nat) : Int))) ∧ Below w.heap.size w wr)) (fun _ j _ => ys.length - (intOf j).toNat)
      case atStart => exact ⟨0, _, rfl, by omega, rfl, HN0⟩
      case round =>
        obtain ⟨m, all, rfl, hm, rfl, HN⟩ := hrel
        (try clear HN0)
        obtain ⟨wi, rfl⟩ : ∃ wi : World, wi = wr := ⟨_, rfl⟩
        by_cases hml : m < ys.length
        · have hdk : decide ((m : Int) < (ys.length : Int)) = true := by simp; omega
          have hdl : decide (m < ys.length) = true := by simp; omega
          obtain ⟨gn, rfl, hgl, hgc⟩ := HN.out.2.2.1 m hml
          have hy13 := HY.out _ (getN_mem hml)
          have HAT := hid (add_take (all := cur) hml)
          have hnd2 := nodup_addAll (ys := ys.take m) HD.out
          have hlen : (addAll cur (ys.take m)).length ≤ 13 := len13 hnd2 fun z hz => by
            rcases mem_addAll.1 hz with h | h
            · exact HA.out z h
            · exact HY.out z (List.mem_of_mem_take h)
          clear hnd2
          generalize ys.getD m 0 = y at *
          generalize addAll cur (ys.take m) = L at *
          cases hq : inL L y
          · have HQ := hid hq
            rw [hq] at HAT
            have HAT2 : Hid (addAll cur (ys.take (m + 1)) = L ++ [y]) := hid HAT.out
            clear hq HAT
            go_wp2_with (first | (go_at_call 144; (with_reducible refine (contains_any _ L y _ HN.out.1.ls hlen).mono ?_); rintro e w' ⟨rfl, rfl⟩; rw [HQ.out]) | (at_builtin; refine wpList_append_lies _ rfl _ _ 142 rfl w.heap.size 111 i0 _ 1 8 Tryd.underlying142 hi0 hz0 hz1 hz2 rfl (by decide) _ _ _ rfl (HN.out.1.alloc _) ⟨wi.heap.size, 0, none⟩ 1 1 [.int .i64 (y : Int)] rfl rfl ?c1 ?c2 ?c0 ?c3 ?c4 ?c5 (wi.heap.size + 1) (by simp) ?_))
            case c1 =>
              intro j u hj
              match j, hj with
              | 0, hj => simp at hj; subst hj; simp [Addr.add]
            case c2 => intro u hu; simp at hu; subst hu; rfl
            case c0 => omega
            case c3 => unfold maxLen; omega
            case c4 => omega
            case c5 => have := HN.out.2.2.2.size; simp; omega
            intro g9 cap9 w9 hown' hgrow hat _
            have HN9 : Hid (Bs w9 w.heap.size (.slice (some ⟨g9, 0, none⟩) (L.length + 1) cap9) (addAll cur (ys.take (m + 1))) ∧ (∀ q, (Value.slice (some ⟨g9, 0, none⟩) (L.length + 1) cap9).ownBlock = some q → some (⟨gn, 0, none⟩ : Addr) ≠ some ⟨q, 0, none⟩ ∨ ys.length = 0) ∧ (∀ i, i < ys.length → ∃ g, some (⟨gn, 0, none⟩ : Addr) = some ⟨g, 0, none⟩ ∧ g < w9.heap.size ∧ w9.cell? ⟨g, i, none⟩ = some (.int .i64 ((ys.getD i 0 : Nat) : Int))) ∧ Below w.heap.size w w9) := hid (by
              have hne : ∀ q, all.ownBlock = some q → gn ≠ q := fun q hq e => by
                rcases HN.out.2.1 q hq with h | h
                · exact h (by rw [e])
                · omega
              have hsz := hgrow.size
              simp only [World.size_alloc] at hsz
              refine ⟨by rw [HAT2.out]; exact bs_snoc hown', fun q hq => .inl (fun e => ?_), fun i hi => ?_, ?_⟩
              · simp [Value.ownBlock] at hq e
                rcases hat with h | h
                · exact hne g9 h (by omega)
                · omega
              · obtain ⟨g1, e1, e2, e3⟩ := HN.out.2.2.1 i hi
                have e1' := Option.some.inj e1
                injection e1' with e1'
                subst e1'
                refine ⟨gn, rfl, by omega, ?_⟩
                rw [hgrow.cell_far ⟨gn, i, none⟩ (by simp; omega) (fun e => hne gn e.symm rfl)]
                exact Lib.cell?_alloc_some _ e3
              · exact (HN.out.2.2.2.alloc HN.out.2.2.2.size _).grown hgrow (by have := HN.out.2.2.2.size; simp; omega) (fun j hj => (HN.out.1.lt j hj).1))
            clear hown' hgrow hat HN
            go_wp2
            go_roundw
            case rel => exact ⟨m + 1, _, rfl, by omega, by go_num, HN9⟩
            case measure => simp [intOf]; omega
          · have HQ := hid hq
            rw [hq] at HAT
            have HAT2 : Hid (addAll cur (ys.take (m + 1)) = L) := hid HAT.out
            clear hq HAT
            go_wp2_with (first | (go_at_call 144; (with_reducible refine (contains_any _ L y _ HN.out.1.ls hlen).mono ?_); rintro e w' ⟨rfl, rfl⟩; rw [HQ.out]))
            go_roundw
            case rel => exact ⟨m + 1, _, rfl, by omega, by go_num, hid (by rw [HAT2.out]; exact HN.out)⟩
            case measure => simp [intOf]; omega
        · obtain rfl : m = ys.length := by omega
          have hdk : decide ((ys.length : Int) < (ys.length : Int)) = false := by simp
          have HNE : Hid (Bs wi w.heap.size all (growL (fun b => bl (nearB b) 13) (l.take (k + 1)) l) ∧ Below w.heap.size w wi) := hid ⟨by
            rw [HGT.out]
            have := HN.out.1
            rw [List.take_length] at this
            exact this, HN.out.2.2.2⟩
          clear HN
          go_wp2
          go_roundw
          case rel => exact ⟨k + 1, _, rfl, by omega, by go_num, hid HNE.out.1, hid HNE.out.2⟩
          case measure => simp [intOf]; omega
    · obtain rfl : k = l.length := by omega
      have hdi : decide ((l.length : Int) < (l.length : Int)) = false := by simp
      have HE : Hid (Bs wo w.heap.size all (growL (fun b => bl (nearB b) 13) l l)) := hid (by
        have := HO.out
        rw [List.take_length] at this
        exact this)
      go_wp2
      go_ret
      exact ⟨_, rfl, HE.out, HB.out⟩
end Go.Proofs.YtlmmjdaipedjjaaDoor.C
