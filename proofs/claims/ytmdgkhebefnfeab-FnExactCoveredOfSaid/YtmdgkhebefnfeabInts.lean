/- The model's random source: what a pick gives, and what it leaves of the world. Slices of integers in the exact laws: comparing, marking, reading marks. -/
import Derived.Test.YtmdgkhebefnfeabTwo
import Derived.WalkLawsBesides
import Derived.WalkSpells
import Derived.IntWalk
import Derived.Handy
import Derived.Deep.QuietTactic
import Derived.BigQuiet
namespace Go.Proofs.Ytmdgkhebefnfeab.C
section
open Go.RowKit
set_option linter.unusedVariables false

/-- The world is the old one but for block q and new blocks. -/
structure Wr (q : Nat) (w w' : World) : Prop where
  os : w'.os = w.os
  tape : w'.tape = w.tape
  output : w'.output = w.output
  size : w.heap.size ≤ w'.heap.size
  block : ∀ k, k < w.heap.size → k ≠ q → w'.heap[k]? = w.heap[k]?
theorem Wr.refl (q : Nat) (w : World) : Wr q w w := ⟨rfl, rfl, rfl, Nat.le_refl _, fun _ _ _ => rfl⟩
theorem Wr.trans {q : Nat} {a b c : World} (h : Wr q a b) (k : Wr q b c) : Wr q a c :=
  ⟨k.os.trans h.os, k.tape.trans h.tape, k.output.trans h.output, Nat.le_trans h.size k.size, fun i hi hq => (k.block i (Nat.lt_of_lt_of_le hi h.size) hq).trans (h.block i hi hq)⟩
theorem Wr.of_below {q : Nat} {w w' : World} (h : Below w.heap.size w w') : Wr q w w' := ⟨h.os, h.tape, h.output, h.size, fun k hk _ => h.block k hk⟩
theorem Wr.below {q B : Nat} {w w' : World} (h : Wr q w w') (hq : B ≤ q) (hB : B ≤ w.heap.size) : Below B w w' :=
  ⟨h.os, h.tape, h.output, h.size, fun k hk => h.block k (Nat.lt_of_lt_of_le hk hB) (by omega)⟩
theorem Wr.cell {q : Nat} {w w' : World} (h : Wr q w w') {b off : Nat} (hb : b < w.heap.size) (hq : b ≠ q) : w'.cell? ⟨b, off, none⟩ = w.cell? ⟨b, off, none⟩ := by
  simp [World.cell?, h.block b hb hq]
theorem Wr.frozen {q : Nat} {w w' : World} (h : Wr q w w') {b off : Nat} (hb : b < w.heap.size) (hq : b ≠ q) : w'.frozen? ⟨b, off, none⟩ = w.frozen? ⟨b, off, none⟩ := by
  simp [World.frozen?, h.block b hb hq]
theorem Wr.setCell (w : World) (q i : Nat) (v : Value) : Wr q w (w.setCell ⟨q, i, none⟩ v) :=
  ⟨rfl, rfl, rfl, by simp, fun k hk hq => Below.heap_setCell w ⟨q, i, none⟩ v k hq⟩
theorem Wr.drewN {q : Nat} {w w' : World} (h : Wr q w w') (n : Nat) : Wr q w (w'.drewN n) := ⟨h.os, h.tape, h.output, h.size, h.block⟩

theorem cell_lt {w : World} {b off : Nat} {v : Value} (h : w.cell? ⟨b, off, none⟩ = some v) : b < w.heap.size := by
  unfold World.cell? at h
  cases hh : w.heap[b]? with
  | none => simp [hh] at h
  | some o => exact (Array.getElem?_eq_some_iff.1 hh).1
theorem IsRow.of_block {k : IntKind} {w w' : World} {a : Option Addr} {len cap : Nat} {zs : List Int} (h : IsRow k w a len cap zs) (hs : ∀ x, a = some x → 0 < cap → w'.heap[x.block]? = w.heap[x.block]?) : IsRow k w' a len cap zs := by
  rcases h with h | ⟨x, rfl, h1, h2, h3, h4, h5⟩
  · exact .inl h
  · refine .inr ⟨x, rfl, h1, h2, h3, fun i hi => ?_, h5⟩
    rw [← h4 i hi]
    exact World.cell?_of_block (w := w) (by rw [show (x.add i).block = x.block from by unfold Addr.add; split <;> rfl]; exact hs x rfl (by omega))

/-- The random source at block q: its bytes lie below B, its place is at most m. -/
def Rd (B : Nat) (w : World) (q m : Nat) : Prop :=
  ∃ a len cap zs, ∃ p : Nat, IsRow .u8 w a len cap zs ∧ (∀ x, a = some x → 0 < cap → x.block < B) ∧ w.cell? ⟨q, 0, none⟩ = some (.slice a len cap) ∧ w.cell? ⟨q, 1, none⟩ = some (.int .i64 p) ∧
    w.frozen? ⟨q, 1, none⟩ = false ∧ B ≤ q ∧ p ≤ m
theorem Rd.lt {B : Nat} {w : World} {q m : Nat} (h : Rd B w q m) : q < w.heap.size := by
  obtain ⟨a, len, cap, zs, p, _, _, h1, _⟩ := h
  exact cell_lt h1
theorem Rd.le {B : Nat} {w : World} {q m : Nat} (h : Rd B w q m) : B ≤ q := by
  obtain ⟨a, len, cap, zs, p, _, _, _, _, _, h1, _⟩ := h
  exact h1
theorem Rd.mono {B : Nat} {w : World} {q m m' : Nat} (h : Rd B w q m) (hm : m ≤ m') : Rd B w q m' := by
  obtain ⟨a, len, cap, zs, p, h1, h2, h3, h4, h5, h6, h7⟩ := h
  exact ⟨a, len, cap, zs, p, h1, h2, h3, h4, h5, h6, Nat.le_trans h7 hm⟩
theorem Rd.below {B B' : Nat} {w w' : World} {q m : Nat} (h : Rd B w q m) (hb : Below B' w w') (hB : q < B') : Rd B w' q m := by
  obtain ⟨a, len, cap, zs, p, h1, h2, h3, h4, h5, h6, h7⟩ := h
  refine ⟨a, len, cap, zs, p, h1.of_block fun x hx hc => hb.block _ (by have := h2 x hx hc; omega), h2, ?_, ?_, ?_, h6, h7⟩
  · rw [hb.cell (p := ⟨q, 0, none⟩) hB]; exact h3
  · rw [hb.cell (p := ⟨q, 1, none⟩) hB]; exact h4
  · rw [hb.frozen (p := ⟨q, 1, none⟩) hB]; exact h5

/-- A store into a new block of the drawing function's own (a local struct). -/
theorem Wr.setNew {q : Nat} {w w' : World} (h : Wr q w w') {b : Nat} (hb : w.heap.size ≤ b) (i : Nat) (v : Value) : Wr q w (w'.setCell ⟨b, i, none⟩ v) :=
  ⟨h.os, h.tape, h.output, by simpa using h.size, fun k hk hq => (Below.heap_setCell w' ⟨b, i, none⟩ v k (by intro e; simp at e; omega)).trans (h.block k hk hq)⟩
theorem Rd.setOther {B : Nat} {w : World} {q m : Nat} (h : Rd B w q m) {b : Nat} (hB : B ≤ b) (hq : b ≠ q) (i : Nat) (v : Value) : Rd B (w.setCell ⟨b, i, none⟩ v) q m := by
  obtain ⟨a, len, cap, zs, p, h1, h2, h3, h4, h5, h6, h7⟩ := h
  have hf : ∀ k, k ≠ b → (w.setCell ⟨b, i, none⟩ v).heap[k]? = w.heap[k]? := fun k hk => Below.heap_setCell w ⟨b, i, none⟩ v k hk
  refine ⟨a, len, cap, zs, p, h1.of_block fun x hx hc => hf _ (by have := h2 x hx hc; omega), h2, ?_, ?_, ?_, h6, h7⟩
  · simp only [World.cell?, hf q (Ne.symm hq)]; exact h3
  · simp only [World.cell?, hf q (Ne.symm hq)]; exact h4
  · simpa using h5
/-- What a pick leaves: a number below n, the source one place on. -/
def Picked (B q m : Nat) (n : Int) (w : World) (e : Ending) (w' : World) : Prop :=
  ∃ k : Nat, (k : Int) < n ∧ e = .returned (.int .i64 k) ∧ Rd B w' q m ∧ Wr q w w'
theorem Picked.of {B q m p : Nat} {n : Int} {w w' : World} {a : Option Addr} {len cap : Nat} {zs : List Int} (hw : IsRow .u8 w a len cap zs) (ha : ∀ x, a = some x → 0 < cap → x.block < B)
    (h0 : w.cell? ⟨q, 0, none⟩ = some (.slice a len cap)) (h1 : w.cell? ⟨q, 1, none⟩ = some (.int .i64 p)) (hf : w.frozen? ⟨q, 1, none⟩ = false) (hB : B ≤ q) (hp : p ≤ m)
    {k : Int} (hk0 : 0 ≤ k) (hkn : k < n) {e : Ending} (he : e = .returned (.int .i64 k)) (hw' : ∃ j, w' = (w.setCell ⟨q, 1, none⟩ (.int .i64 ((p : Int) + 1))).drewN j) : Picked B q (m + 1) n w e w' := by
  obtain ⟨j, rfl⟩ := hw'
  obtain ⟨k, rfl⟩ := Int.eq_ofNat_of_zero_le hk0
  refine ⟨k, hkn, he, ⟨a, len, cap, zs, p + 1, ?_, ha, ?_, ?_, ?_, hB, by omega⟩, (Wr.setCell w q 1 _).drewN j⟩
  · exact hw.of_block fun x hx hc => (Wr.setCell w q 1 _).block _ (by
      have := cell_lt h0
      have := ha x hx hc
      omega) (by have := ha x hx hc; omega)
  · simpa [go_sem] using h0
  · simp [go_sem, h1]
  · simpa [go_sem] using hf

theorem zs_byte {zs : List Int} (h : ∀ n ∈ zs, (Lit.int .u8 n).wf = true) (i : Nat) : 0 ≤ zs[i]?.getD 0 ∧ zs[i]?.getD 0 ≤ 255 := by
  by_cases hi : i < zs.length
  · have := h (zs[i]?.getD 0) (by rw [List.getElem?_eq_getElem hi]; exact List.getElem_mem hi)
    simp [Lit.wf, IntKind.min, IntKind.max, IntKind.signed, IntKind.bits] at this
    omega
  · rw [List.getElem?_eq_none (by omega)]; simp
theorem xor_nonneg (x y : Int) (hx : 0 ≤ x) (hx2 : x ≤ 4611686018427387903) (hy : 0 ≤ y) (hy2 : y ≤ 4611686018427387903) : 0 ≤ bits .xor .i64 x y := by
  obtain ⟨a, rfl⟩ := Int.eq_ofNat_of_zero_le hx
  obtain ⟨b, rfl⟩ := Int.eq_ofNat_of_zero_le hy
  have hab : a ^^^ b < 2 ^ 62 := Nat.xor_lt_two_pow (by omega) (by omega)
  have h1 : (BitVec.ofInt 64 (a : Int)).toNat = a := by
    rw [BitVec.ofInt_natCast, BitVec.toNat_ofNat]; exact Nat.mod_eq_of_lt (by omega)
  have h2 : (BitVec.ofInt 64 (b : Int)).toNat = b := by
    rw [BitVec.ofInt_natCast, BitVec.toNat_ofNat]; exact Nat.mod_eq_of_lt (by omega)
  show 0 ≤ IntKind.i64.wrap ((BitVec.ofInt 64 (a : Int) ^^^ BitVec.ofInt 64 (b : Int)).toNat : Int)
  rw [BitVec.toNat_xor, h1, h2, IntWalk.i64_in _ (by omega)]
  omega
set_option maxHeartbeats 1000000 in
theorem pick_any (B q m : Nat) (n : Int) (w : World) (h : Rd B w q m) (hm : m ≤ 1099511627776) (hn : 1 ≤ n) (hn2 : n ≤ 4611686018427387904) :
    Calls Try.prog 50 #[.pointer (some ⟨q, 0, none⟩), .int .i64 n] w (Picked B q (m + 1) n w) := by
  obtain ⟨a, len, cap, zs, p, hw, ha, h0, h1, hf, hB, hp⟩ := h
  have HF : Hid (∀ (k : Int) (e : Ending) (w' : World), 0 ≤ k → k < n → e = .returned (.int .i64 k) → (∃ j, w' = (w.setCell ⟨q, 1, none⟩ (.int .i64 ((p : Int) + 1))).drewN j) → Picked B q (m + 1) n w e w') :=
    hid fun k e w' c1 c2 c3 c4 => Picked.of hw ha h0 h1 hf hB hp c1 c2 c3 c4
  rcases hw with ⟨rfl, rfl, rfl, rfl⟩ | ⟨⟨b, off, spot⟩, rfl, hl, hc, hz, hcell, hwz⟩
  · go_enter Try.func50, Try.ntmps50
    go_wp2
    go_ret
    exact HF.out _ _ _ (by omega) (by omega) rfl ⟨0, rfl⟩
  · by_cases h00 : len = 0
    · subst h00
      go_enter Try.func50, Try.ntmps50
      go_wp2
      go_ret
      exact HF.out _ _ _ (by omega) (by omega) rfl ⟨0, rfl⟩
    · have hspot : spot = none := by
        have := hcell 0 (by omega)
        simpa [Addr.add] using World.cell?_spot this
      subst hspot
      have hb : b < w.heap.size := cell_lt (by simpa [Addr.add] using hcell 0 (by omega))
      have hbq : b ≠ q := by have := ha _ rfl (by omega); simp at this; omega
      have hcl : ∀ i, i < len → (w.setCell ⟨q, 1, none⟩ (.int .i64 ((p : Int) + 1))).cell? ⟨b, off + i, none⟩ = some (.int .u8 (zs[i]?.getD 0)) := fun i hi => by
        rw [(Wr.setCell w q 1 _).cell hb hbq]
        have := hcell i (by omega)
        rw [List.getD_eq_getElem?_getD] at this
        rw [← this]
        congr 1
        unfold Addr.add
        split <;> simp_all
      have hmax : cap ≤ 9223372036854775807 := by unfold maxLen at hc; exact hc
      clear hcell hc
      have hl0 : ((len : Int) == 0) = false := by simp; omega
      have hn0 : decide (n < 1) = false := by simp; omega
      by_cases hlt : p < len
      · have hc := hcl p hlt
        have hby := zs_byte hwz p
        clear hcl hwz
        go_enter Try.func50, Try.ntmps50
        go_wp2
        go_ret
        exact HF.out _ _ _ (Int.emod_nonneg _ (by omega)) (Int.emod_lt_of_pos _ (by omega)) rfl ⟨0, rfl⟩
      · have hx : ∀ i, i < len → ∃ x : Int, 0 ≤ x ∧ x ≤ 255 ∧ (w.setCell ⟨q, 1, none⟩ (.int .i64 ((p : Int) + 1))).cell? ⟨b, off + i, none⟩ = some (.int .u8 x) :=
          fun i hi => ⟨_, (zs_byte hwz i).1, (zs_byte hwz i).2, hcl i hi⟩
        obtain ⟨x1, hb1, hb1', hc1⟩ := hx (p % len) (Nat.mod_lt _ (by omega))
        obtain ⟨x2, hb2, hb2', hc2⟩ := hx ((p * 7 + 3) % len) (Nat.mod_lt _ (by omega))
        clear hx hcl hwz
        have hi1 : p % len < len := Nat.mod_lt _ (by omega)
        have hi2 : (p * 7 + 3) % len < len := Nat.mod_lt _ (by omega)
        have hi3 : p / len ≤ p := Nat.div_le_self _ _
        have t1 : (p : Int).tmod (len : Int) = ((p % len : Nat) : Int) := by rw [Int.tmod_eq_emod_of_nonneg (by omega)]; rfl
        have t2 : ((p : Int) * 7 + 3).tmod (len : Int) = (((p * 7 + 3) % len : Nat) : Int) := by rw [Int.tmod_eq_emod_of_nonneg (by omega)]; rfl
        have t3 : (p : Int).tdiv (len : Int) = ((p / len : Nat) : Int) := by rw [Int.tdiv_eq_ediv_of_nonneg (by omega)]; rfl
        generalize p % len = i1 at *
        generalize (p * 7 + 3) % len = i2 at *
        generalize p / len = i3 at *
        have v0 : IntKind.i64.wrap (i3 : Int) = (i3 : Int) := IntWalk.i64_in _ (by omega)
        have v1 : IntKind.i64.wrap (x1 * 131) = x1 * 131 := IntWalk.i64_in _ (by omega)
        have v2 : IntKind.i64.wrap ((p : Int) * 7) = (p : Int) * 7 := IntWalk.i64_in _ (by omega)
        have v3 : IntKind.i64.wrap ((p : Int) * 7 + 3) = (p : Int) * 7 + 3 := IntWalk.i64_in _ (by omega)
        have v4 : IntKind.i64.wrap (x2 * 1117) = x2 * 1117 := IntWalk.i64_in _ (by omega)
        have v5 : IntKind.i64.wrap (x1 * 131 + x2 * 1117) = x1 * 131 + x2 * 1117 := IntWalk.i64_in _ (by omega)
        have v6 : IntKind.i64.wrap ((p : Int) * 29) = (p : Int) * 29 := IntWalk.i64_in _ (by omega)
        have v7 : IntKind.i64.wrap (x1 * 131 + x2 * 1117 + (p : Int) * 29) = x1 * 131 + x2 * 1117 + (p : Int) * 29 := IntWalk.i64_in _ (by omega)
        have v8 : IntKind.i64.wrap ((i3 : Int) * 53) = (i3 : Int) * 53 := IntWalk.i64_in _ (by omega)
        have v9 : IntKind.i64.wrap (x1 * 131 + x2 * 1117 + (p : Int) * 29 + (i3 : Int) * 53) = x1 * 131 + x2 * 1117 + (p : Int) * 29 + (i3 : Int) * 53 := IntWalk.i64_in _ (by omega)
        go_enter Try.func50, Try.ntmps50
        go_wp2
        go_quiet (fail)
        clear v0 v1 v2 v3 v4 v5 v6 v7 v8 v9 t1 t2 t3
        go_wp2
        go_ret
        have hx := xor_nonneg (x1 * 131 + x2 * 1117 + (p : Int) * 29 + (i3 : Int) * 53) ((x1 * 131 + x2 * 1117 + (p : Int) * 29 + (i3 : Int) * 53) / 64) (by omega) (by omega) (by omega) (by omega)
        exact HF.out _ _ _ (Int.tmod_nonneg _ hx) (Int.tmod_lt_of_pos _ (by omega)) rfl ⟨_, rfl⟩
theorem IsRow.lt {k : IntKind} {w : World} {a : Option Addr} {len cap : Nat} {zs : List Int} (h : IsRow k w a len cap zs) : ∀ x, a = some x → 0 < cap → x.block < w.heap.size := by
  intro x hx hc
  rcases h with ⟨rfl, _⟩ | ⟨y, rfl, h1, h2, h3, h4, h5⟩
  · cases hx
  · have e := Option.some.inj hx
    subst e
    have := h4 0 (by omega)
    have hs := World.cell?_spot this
    obtain ⟨b, off, spot⟩ := y
    simp [Addr.add] at hs this
    subst hs
    exact cell_lt this
theorem IsRow.cut {k : IntKind} {w : World} {a : Option Addr} {len cap : Nat} {zs : List Int} (h : IsRow k w a len cap zs) {n : Nat} (hn : n < len) : IsRow k w a n cap zs := by
  rcases h with ⟨rfl, rfl, rfl, rfl⟩ | ⟨y, rfl, h1, h2, h3, h4, h5⟩
  · omega
  · exact .inr ⟨y, rfl, by omega, h2, h3, h4, h5⟩
/-- What opening the source leaves. -/
def Opened (w : World) (e : Ending) (w' : World) : Prop :=
  e = .returned (.pointer (some ⟨w.heap.size, 0, none⟩)) ∧ Rd w.heap.size w' w.heap.size 0 ∧ Below w.heap.size w w'
theorem Opened.of {w w' : World} {a : Option Addr} {len cap : Nat} {zs : List Int} (h : IsRow .u8 w a len cap zs) {e : Ending} (he : e = .returned (.pointer (some ⟨w.heap.size, 0, none⟩))) (t : TypeId)
    (hw : w' = w.alloc (.cells #[.slice a len cap, .int .i64 0] t)) : Opened w e w' := by
  subst hw
  have hb : Below w.heap.size w (w.alloc (.cells #[.slice a len cap, .int .i64 0] t)) := by go_grown
  refine ⟨he, ⟨a, len, cap, zs, 0, h.of_block fun x hx hc => hb.block _ (h.lt x hx hc), h.lt, by simp [go_sem], by simp [go_sem], by simp [go_sem], Nat.le_refl _, Nat.le_refl _⟩, hb⟩
theorem l14Open_any (a : Option Addr) (len cap : Nat) (zs : List Int) (w : World) (h : IsRow .u8 w a len cap zs) :
    Calls Try.prog 47 #[.slice a len cap] w (Opened w) := by
  by_cases hl : len ≤ 2000
  · have H : Hid (∀ e w', e = .returned (.pointer (some ⟨w.heap.size, 0, none⟩)) → w' = w.alloc (.cells #[.slice a len cap, .int .i64 0] 76) → Opened w e w') := hid fun e w' c1 c2 => Opened.of h c1 _ c2
    have hd : decide ((2000 : Int) < (len : Int)) = false := by simp; omega
    clear h
    go_enter Try.func47, Try.ntmps47
    go_wp2
    go_ret
    exact H.out _ _ rfl rfl
  · have H : Hid (∀ e w', e = .returned (.pointer (some ⟨w.heap.size, 0, none⟩)) → w' = w.alloc (.cells #[.slice a 2000 cap, .int .i64 0] 76) → Opened w e w') := hid fun e w' c1 c2 => Opened.of (h.cut (by omega)) c1 _ c2
    have hd : decide ((2000 : Int) < (len : Int)) = true := by simp; omega
    rcases h with ⟨rfl, rfl, rfl, rfl⟩ | ⟨x, rfl, h1, h2, h3, h4, h5⟩
    · omega
    · unfold maxLen at h2
      clear h4 h5
      go_enter Try.func47, Try.ntmps47
      go_wp2
      go_ret
      exact H.out _ _ rfl rfl
/-- What a draw of one number leaves, the number being good. -/
def Drew (good : Int → Prop) (B q m : Nat) (w : World) (e : Ending) (w' : World) : Prop :=
  ∃ v : Int, good v ∧ e = .returned (.int .i64 v) ∧ Rd B w' q m ∧ Wr q w w'
/-- A number out of a list that lies in a new block. -/
theorem num_any (B q m b : Nat) (good : Int → Prop) (zs : List Int) (n : Nat) (hn : zs.length = n) (w : World) (h : Rd B w q m) (hm : m ≤ 1099511627776) (h0 : 0 < n) (hlim : n ≤ 1000)
    (hc : ∀ i, i < n → w.cell? ⟨b, i, none⟩ = some (.int .i64 (zs[i]?.getD 0))) (hb : b ≠ q) (hg : ∀ i, i < n → good (zs[i]?.getD 0)) :
    Calls Try.prog 49 #[.pointer (some ⟨q, 0, none⟩), .slice (some ⟨b, 0, none⟩) n n] w (Drew good B q (m + 1) w) := by
  have hbl : b < w.heap.size := cell_lt (hc 0 h0)
  have HC := hid hc
  have HG := hid hg
  clear hc hg
  go_enter Try.func49, Try.ntmps49
  go_wp2_with fail
  refine (pick_any B q m _ _ h hm (by omega) (by omega)).mono ?_
  rintro e w1 ⟨k, hk, rfl, hR, hW⟩
  have hk' : k < n := by omega
  have hcell : w1.cell? ⟨b, k, none⟩ = some (.int .i64 (zs[k]?.getD 0)) := by rw [hW.cell hbl hb]; exact HC.out k hk'
  have hgk := HG.out k hk'
  clear HC HG hn
  generalize zs[k]?.getD 0 = v at *
  have HF : Hid (∀ e w', e = .returned (.int .i64 v) → w1 = w' → Drew good B q (m + 1) w e w') := hid fun e w' c1 c2 => ⟨_, hgk, c1, by subst c2; exact hR, by subst c2; exact hW⟩
  clear hR hW
  go_wp2
  go_ret
  exact HF.out _ _ rfl rfl
/-- A number of Go's int. -/
def I64 (v : Int) : Prop := -9223372036854775808 ≤ v ∧ v ≤ 9223372036854775807
theorem Rd.alloc {B : Nat} {w : World} {q m : Nat} (h : Rd B w q m) (o : Obj) : Rd B (w.alloc o) q m := h.below ((Below.refl w.heap.size w).alloc (Nat.le_refl _) o) h.lt
theorem Wr.alloc (q : Nat) (w : World) (o : Obj) : Wr q w (w.alloc o) := Wr.of_below ((Below.refl w.heap.size w).alloc (Nat.le_refl _) o)
theorem Drew.wr {good : Int → Prop} {B q m : Nat} {w w1 : World} (h : Wr q w w1) {e : Ending} {w' : World} (d : Drew good B q m w1 e w') : Drew good B q m w e w' := by
  obtain ⟨v, h1, h2, h3, h4⟩ := d
  exact ⟨v, h1, h2, h3, h.trans h4⟩
theorem Drew.of {good : Int → Prop} {B q m : Nat} {w w1 : World} (h : Wr q w w1) (hR : Rd B w1 q m) {e : Ending} {v : Int} (hv : good v) (he : e = .returned (.int .i64 v)) {w' : World} (hw : w1 = w') : Drew good B q m w e w' := by
  subst hw
  exact ⟨v, hv, he, hR, h⟩
/-- A number out of a list that is written out at the call. -/
theorem num_new (B q m b : Nat) (good : Int → Prop) (zs : List Int) (n : Nat) (t : TypeId) (w : World) (h : Rd B w q m) (hb : b = w.heap.size) (hn : zs.length = n) (hm : m ≤ 1099511627776) (h0 : 0 < n) (hlim : n ≤ 1000)
    (hg : ∀ i, i < n → good (zs[i]?.getD 0)) :
    Calls Try.prog 49 #[.pointer (some ⟨q, 0, none⟩), .slice (some ⟨b, 0, none⟩) n n] (w.alloc (.cells (zs.map fun z => Value.int .i64 z).toArray t)) (Drew good B q (m + 1) w) := by
  subst hb
  refine (num_any B q m w.heap.size good zs n hn _ (h.alloc _) hm h0 hlim (fun i hi => ?_) (by have := h.lt; omega) hg).mono fun e w' d => d.wr (Wr.alloc _ _ _)
  have : i < zs.length := by omega
  simp [go_sem, List.getElem?_eq_getElem this]
/-- What a drawing function of one number leaves. -/
def Out1 (good : Int → Prop) (w : World) (e : Ending) (w' : World) : Prop := ∃ v : Int, good v ∧ e = .returned (.int .i64 v) ∧ Below w.heap.size w w'
theorem Out1.of {good : Int → Prop} {w w1 w2 : World} {v : Int} (hv : good v) (hb : Below w.heap.size w w1) (hW : Wr w.heap.size w1 w2) {e : Ending} (he : e = .returned (.int .i64 v)) {w' : World} (hw : w2 = w') : Out1 good w e w' := by
  subst hw
  exact ⟨v, hv, he, hb.trans (hW.below (Nat.le_refl _) hb.size)⟩
/-- What a drawing function of two numbers leaves. -/
def Out2 (good : Int → Int → Prop) (w : World) (e : Ending) (w' : World) : Prop := ∃ v u : Int, good v u ∧ e = .returned (.tuple #[.int .i64 v, .int .i64 u]) ∧ Below w.heap.size w w'
theorem Out2.of {good : Int → Int → Prop} {w w1 w2 : World} {v u : Int} (hv : good v u) (hb : Below w.heap.size w w1) (hW : Wr w.heap.size w1 w2) {e : Ending} (he : e = .returned (.tuple #[.int .i64 v, .int .i64 u])) {w' : World} (hw : w2 = w') : Out2 good w e w' := by
  subst hw
  exact ⟨v, u, hv, he, hb.trans (hW.below (Nat.le_refl _) hb.size)⟩
theorem IsRow.below {k : IntKind} {w w' : World} {a : Option Addr} {len cap : Nat} {zs : List Int} (h : IsRow k w a len cap zs) (hb : Below w.heap.size w w') : IsRow k w' a len cap zs :=
  h.of_block fun x hx hc => hb.block _ (h.lt x hx hc)
/-- What a draw of one text leaves. -/
def DrewS (good : ByteArray → Prop) (B q m : Nat) (w : World) (e : Ending) (w' : World) : Prop :=
  ∃ v : ByteArray, good v ∧ e = .returned (.string v) ∧ Rd B w' q m ∧ Wr q w w'
theorem DrewS.wr {good : ByteArray → Prop} {B q m : Nat} {w w1 : World} (h : Wr q w w1) {e : Ending} {w' : World} (d : DrewS good B q m w1 e w') : DrewS good B q m w e w' := by
  obtain ⟨v, h1, h2, h3, h4⟩ := d
  exact ⟨v, h1, h2, h3, h.trans h4⟩
theorem DrewS.of {good : ByteArray → Prop} {B q m : Nat} {w w1 : World} (h : Wr q w w1) (hR : Rd B w1 q m) {e : Ending} {v : ByteArray} (hv : good v) (he : e = .returned (.string v)) {w' : World} (hw : w1 = w') : DrewS good B q m w e w' := by
  subst hw
  exact ⟨v, hv, he, hR, h⟩
/-- What a drawing function of one text leaves. -/
def OutS (good : ByteArray → Prop) (w : World) (e : Ending) (w' : World) : Prop := ∃ v : ByteArray, good v ∧ e = .returned (.string v) ∧ Below w.heap.size w w'
theorem OutS.of {good : ByteArray → Prop} {w w1 w2 : World} {v : ByteArray} (hv : good v) (hb : Below w.heap.size w w1) (hW : Wr w.heap.size w1 w2) {e : Ending} (he : e = .returned (.string v)) {w' : World} (hw : w2 = w') : OutS good w e w' := by
  subst hw
  exact ⟨v, hv, he, hb.trans (hW.below (Nat.le_refl _) hb.size)⟩
end
section
open Go.RowKit
set_option linter.unusedVariables false
set_option linter.unusedSimpArgs false
/-- A slice of n integers. -/
def Sl (w : World) (v : Value) (n : Nat) (f : Nat → Int) : Prop :=
  (n = 0 ∧ ∃ a c, v = .slice a 0 c) ∨ ∃ b cap, v = .slice (some ⟨b, 0, none⟩) n cap ∧ n ≤ cap ∧ ∀ i, i < n → w.cell? ⟨b, i, none⟩ = some (.int .i64 (f i))
theorem eqIntS_zero (a a' : Option Addr) (c c' : Nat) (w : World) :
    Calls Try.prog 22 #[.slice a 0 c, .slice a' 0 c'] w fun e w' => e = .returned (.bool true) ∧ ∃ m, w' = w.drewN m := by
  have HS := AllLt.start w; go_enter Try.func22, Try.ntmps22
  go_wp2
  go_rounds 1
  go_ret
  exact ⟨rfl, 0, rfl⟩
theorem eqIntS_row (b b' cap cap' n : Nat) (f : Nat → Int) (w : World) (hn : n ≤ 4611686018427387904) (h1 : n ≤ cap) (h2 : n ≤ cap') (hc : ∀ i, i < n → w.cell? ⟨b, i, none⟩ = some (.int .i64 (f i))) (hc' : ∀ i, i < n → w.cell? ⟨b', i, none⟩ = some (.int .i64 (f i))) :
    Calls Try.prog 22 #[.slice (some ⟨b, 0, none⟩) n cap, .slice (some ⟨b', 0, none⟩) n cap'] w fun e w' => e = .returned (.bool true) ∧ ∃ m, w' = w.drewN m := by
  have HC := hid hc
  have HD := hid hc'
  clear hc hc'
  have HS := AllLt.start w; go_enter Try.func22, Try.ntmps22
  go_wp2
  go_loopw [5] (fun v wr => ∃ k : Nat, k ≤ n ∧ v = .int .i64 k ∧ ∃ m, wr = w.drewN m) (fun v _ => n - (intOf v).toNat)
  case atStart => exact ⟨0, by omega, rfl, 0, rfl⟩
  case round =>
    obtain ⟨k, hk, rfl, m, rfl⟩ := hrel
    by_cases hlt : k < n
    · have c1 : ∀ m, (w.drewN m).cell? ⟨b, k, none⟩ = some (.int .i64 (f k)) := fun _ => HC.out k hlt
      have c2 : ∀ m, (w.drewN m).cell? ⟨b', k, none⟩ = some (.int .i64 (f k)) := fun _ => HD.out k hlt
      have c3 := c1 0
      have c4 := c2 0
      have hdi : decide ((k : Int) < (n : Int)) = true := by simp; omega
      have hdj : decide (k < n) = true := by simp; omega
      go_wp2
      go_quiet (fail)
      go_wp2
      go_roundw
      case rel => exact ⟨k + 1, by omega, by go_num, _, rfl⟩
      case measure => simp [intOf]; omega
    · obtain rfl : k = n := by omega
      go_wp2
      go_ret
      exact ⟨rfl, m, rfl⟩
theorem eqIntS_same (v v' : Value) (n : Nat) (f : Nat → Int) (w : World) (hn : n ≤ 4611686018427387904) (h : Sl w v n f) (h' : Sl w v' n f) :
    Calls Try.prog 22 #[v, v'] w fun e w' => e = .returned (.bool true) ∧ ∃ m, w' = w.drewN m := by
  by_cases hz : n = 0
  · obtain ⟨a, c, rfl⟩ : ∃ a c, v = .slice a 0 c := by
      rcases h with ⟨_, a, c, rfl⟩ | ⟨b, cap, rfl, _⟩
      · exact ⟨_, _, rfl⟩
      · exact ⟨_, _, by rw [hz]⟩
    obtain ⟨a', c', rfl⟩ : ∃ a c, v' = .slice a 0 c := by
      rcases h' with ⟨_, a, c, rfl⟩ | ⟨b, cap, rfl, _⟩
      · exact ⟨_, _, rfl⟩
      · exact ⟨_, _, by rw [hz]⟩
    exact eqIntS_zero _ _ _ _ _
  · rcases h with ⟨h0, _⟩ | ⟨b, cap, rfl, h1, h2⟩
    · exact absurd h0 hz
    · rcases h' with ⟨h0, _⟩ | ⟨b', cap', rfl, h1', h2'⟩
      · exact absurd h0 hz
      · exact eqIntS_row b b' cap cap' n f w hn h1 h1' h2 h2'
theorem heldIntS_zero (a : Option Addr) (c : Nat) (k : Int) (w : World) :
    Calls Try.prog 24 #[.slice a 0 c, .int .i64 k] w fun e w' => e = .returned (.int .i64 k) ∧ w = w' := by
  have HS := AllLt.start w; go_enter Try.func24, Try.ntmps24
  go_wp2
  go_rounds 1
  go_ret
  exact ⟨rfl, rfl⟩
theorem heldIntS_row (b cap n : Nat) (k : Nat) (w : World) (hn : n + k ≤ 4611686018427387904) (h1 : n ≤ cap) (hc : ∀ i, i < n → w.cell? ⟨b, i, none⟩ = some (.int .i64 ((k + i : Nat) : Int))) :
    Calls Try.prog 24 #[.slice (some ⟨b, 0, none⟩) n cap, .int .i64 k] w fun e w' => e = .returned (.int .i64 ((k + n : Nat) : Int)) ∧ w = w' := by
  have HC := hid hc
  clear hc
  have HS := AllLt.start w; go_enter Try.func24, Try.ntmps24
  go_wp2
  go_loop [5, 1] (fun v u => ∃ i : Nat, i ≤ n ∧ v = .int .i64 i ∧ u = .int .i64 ((k + i : Nat) : Int)) (fun v _ => n - (intOf v).toNat)
  case atStart => exact ⟨0, by omega, rfl, rfl⟩
  case round =>
    obtain ⟨i, hi, rfl, rfl⟩ := hrel
    by_cases hlt : i < n
    · have c1 := HC.out i hlt
      have hdi : decide ((i : Int) < (n : Int)) = true := by simp; omega
      have hdj : decide (i < n) = true := by simp; omega
      go_wp2
      go_round
      case rel => exact ⟨i + 1, by omega, by go_num, by go_num⟩
      case measure => simp [intOf]; omega
    · obtain rfl : i = n := by omega
      go_wp2
      go_ret
      exact ⟨rfl, rfl⟩
/-- Block b after the first i of n cells have been marked from k on. -/
structure Mk (b : Nat) (k n i : Nat) (w w' : World) : Prop where
  wr : Wr b w w'
  done : ∀ j, j < i → w'.cell? ⟨b, j, none⟩ = some (.int .i64 ((k + j : Nat) : Int))
  rest : ∀ j, i ≤ j → j < n → ∃ v, w'.cell? ⟨b, j, none⟩ = some v
  free : ∀ j, j < n → w'.frozen? ⟨b, j, none⟩ = false
theorem Mk.step {b k n i : Nat} {w w' : World} (h : Mk b k n i w w') (hi : i < n) : Mk b k n (i + 1) w (w'.setCell ⟨b, i, none⟩ (.int .i64 ((k + i : Nat) : Int))) := by
  obtain ⟨v, hv⟩ := h.rest i (Nat.le_refl _) hi
  refine ⟨h.wr.trans (Wr.setCell _ _ _ _), fun j hj => ?_, fun j h1 h2 => ?_, fun j hj => ?_⟩
  · by_cases e : j = i
    · subst e; simp [go_sem, hv]
    · have := h.done j (by omega)
      simp [go_sem, e, this, Ne.symm e]
  · obtain ⟨u, hu⟩ := h.rest j (by omega) h2
    have e : ¬ j = i := by omega
    exact ⟨u, by simp [go_sem, e, hu, Ne.symm e]⟩
  · have := h.free j hj
    simpa [go_sem] using this
theorem markIntS_zero (a : Option Addr) (c : Nat) (k : Int) (w : World) :
    Calls Try.prog 23 #[.slice a 0 c, .int .i64 k] w fun e w' => e = .returned (.int .i64 k) ∧ w = w' := by
  have HS := AllLt.start w; go_enter Try.func23, Try.ntmps23
  go_wp2
  go_rounds 1
  go_ret
  exact ⟨rfl, rfl⟩
theorem markIntS_row (b cap n : Nat) (k : Nat) (w : World) (hn : n + k ≤ 4611686018427387904) (h1 : n ≤ cap) (hc : ∀ i, i < n → ∃ v, w.cell? ⟨b, i, none⟩ = some v) (hf : ∀ j, j < n → w.frozen? ⟨b, j, none⟩ = false) :
    Calls Try.prog 23 #[.slice (some ⟨b, 0, none⟩) n cap, .int .i64 k] w fun e w' => e = .returned (.int .i64 ((k + n : Nat) : Int)) ∧ Mk b k n n w w' := by
  have HM : Hid (Mk b k n 0 w w) := hid ⟨Wr.refl _ _, fun j hj => by omega, fun j _ h => hc j h, hf⟩
  clear hc hf
  have HS := AllLt.start w; go_enter Try.func23, Try.ntmps23
  go_wp2
  go_loopw [5, 1] (fun v u wr => ∃ i : Nat, i ≤ n ∧ v = .int .i64 i ∧ u = .int .i64 ((k + i : Nat) : Int) ∧ Hid (Mk b k n i w wr)) (fun v _ _ => n - (intOf v).toNat)
  case atStart => exact ⟨0, by omega, rfl, rfl, HM⟩
  case round =>
    obtain ⟨i, hi, rfl, rfl, HW⟩ := hrel
    clear HM HS
    by_cases hlt : i < n
    · obtain ⟨v, hv⟩ := HW.out.rest i (Nat.le_refl _) hlt
      have hfr := HW.out.free i hlt
      have hdi : decide ((i : Int) < (n : Int)) = true := by simp; omega
      have hdj : decide (i < n) = true := by simp; omega
      have HN := hid (HW.out.step hlt)
      clear HW
      go_wp2
      go_roundw
      case rel => exact ⟨i + 1, by omega, by go_num, by go_num, by first | exact HN | (have := HN.out; simpa using hid this)⟩
      case measure => simp [intOf]; omega
    · obtain rfl : i = n := by omega
      go_wp2
      go_ret
      exact ⟨rfl, HW.out⟩
end
end Go.Proofs.Ytmdgkhebefnfeab.C
