/-
  Words and walks that the later chapters share: what a call leaves, rows and blocks of the call's own, the reader of a code and its picks, a drawn text.
-/
import Derived.Test.YtnojhfidljipoaaProg
import Derived.Test.YtnojhfidljipoaaWords
import Derived.Deep.QuietTactic
import Derived.BigQuiet
import Derived.Maps.AppendAt
import Derived.Maps.RangeWalk
import Derived.Laws.BytesString
import Derived.Deep.RegionHeld3
import Derived.Deep.RegionLaw
import Derived.Lib.AppendStr
namespace Go.Proofs.Ytnojhfidljipoaa
open Go.RowKit Wo Pu

def Quiet (v : Value) (w : World) (e : Ending) (w' : World) : Prop := e = .returned v ∧ ∃ d, w' = w.drewN d
theorem Quiet.intro_ {v : Value} {w : World} (d : Nat) : Quiet v w (.returned v) (w.drewN d) := ⟨rfl, d, rfl⟩

/-- The world is the old one, but for draws. -/
def Dr (w w' : World) : Prop := ∃ d, w' = w.drewN d
theorem Dr.refl (w : World) : Dr w w := ⟨0, rfl⟩
theorem Dr.drewN {w w' : World} (h : Dr w w') (n : Nat) : Dr w (w'.drewN n) := by
  obtain ⟨d, rfl⟩ := h
  exact ⟨d + n, World.drewN_drewN _ _ _⟩
theorem Dr.row {w w' : World} (h : Dr w w') {B : Nat} {A : Option Addr} {vs : List Value} (hr : Row w B A vs) : Row w' B A vs := by
  obtain ⟨d, rfl⟩ := h
  exact hr.drewN d
theorem Dr.quiet {w w' : World} (h : Dr w w') (v : Value) : Quiet v w (.returned v) w' := ⟨rfl, h⟩

def Same (v : Value) (w : World) (e : Ending) (w' : World) : Prop := e = .returned v ∧ w = w'
/-- It returns v; what was there is as it was. -/
def Ret (v : Value) (w : World) (e : Ending) (w' : World) : Prop := e = .returned v ∧ Below w.heap.size w w'
theorem Dr.below {w w' : World} (h : Dr w w') (B : Nat) : Below B w w' := by
  obtain ⟨d, rfl⟩ := h
  exact Wo.Below.drewN (Below.refl _ _) _

theorem Ret.mk_ {v : Value} {w w' : World} (h : Below w.heap.size w w') : Ret v w (.returned v) w' := ⟨rfl, h⟩

theorem Ret.bool_ {a b : Bool} {w w' : World} (h : b = a) (hb : Below w.heap.size w w') : Ret (.bool a) w (.returned (.bool b)) w' := by subst h; exact ⟨rfl, hb⟩
theorem emp_ (s : ByteArray) : s.toList.isEmpty = decide (s.size = 0) := by
  rw [← decide_eq_emptyBytes s]
  simp

theorem info_of {P : Program} {t : TypeId} {z : Value} {a b : Nat} (h : (P.info? t).map (fun i => (i.zero, i.size, i.bytes)) = some (some z, a, b)) : ∃ i, P.info? t = some i ∧ i.zero = some z ∧ i.size = a ∧ i.bytes = b := by
  cases hi : P.info? t with
  | none => rw [hi] at h; cases h
  | some i =>
    rw [hi] at h
    simp only [Option.map_some, Option.some.injEq, Prod.mk.injEq] at h
    exact ⟨i, rfl, h.1, h.2.1, h.2.2⟩

/-- A slice of the call's own, in a block from B on, with just the cells xs. -/
def Mine (w : World) (B : Nat) (e : TypeId) (sz g n : Nat) (xs : List Value) : Prop := w.ownsRow B e sz (.slice (some ⟨g, 0, none⟩) n n) n xs
theorem Mine.row {w : World} {B g n : Nat} {e : TypeId} {sz : Nat} {xs : List Value} (h : Mine w B e sz g n xs) : Row w w.heap.size (some ⟨g, 0, none⟩) xs := by
  refine Row.of_own h fun hx => ?_
  have h1 := h.1
  rcases Nat.eq_zero_or_pos n with h0 | h0
  · subst h0
    exact absurd (List.eq_nil_of_length_eq_zero (by simpa using h1)) hx
  · exact h0
theorem Mine.lt {w : World} {B g n : Nat} {e : TypeId} {sz : Nat} {xs : List Value} (h : Mine w B e sz g n xs) : B ≤ g ∧ g < w.heap.size := World.ownsRow.lt h g rfl
theorem Mine.len {w : World} {B g n : Nat} {e : TypeId} {sz : Nat} {xs : List Value} (h : Mine w B e sz g n xs) : xs.length = n * sz := h.1
theorem Mine.set_ {w : World} {B g n : Nat} {e : TypeId} {sz : Nat} {xs : List Value} (h : Mine w B e sz g n xs) (j : Nat) (u : Value) : Mine (w.setCell ⟨g, j, none⟩ u) B e sz g n (xs.set j u) := (World.ownsRow.stored h j u).1
theorem Mine.below {w w' : World} {B C g n : Nat} {e : TypeId} {sz : Nat} {xs : List Value} (h : Mine w B e sz g n xs) (hb : Below C w w') (hC : g < C) : Mine w' B e sz g n xs := by
  obtain ⟨h1, h2⟩ := h
  refine ⟨h1, ?_⟩
  rcases h2 with ⟨h2, _⟩ | ⟨g', cap, cur, hv, hB, hh, hr⟩
  · cases h2
  · have hg : g' = g := by injection hv with e1; injection e1 with e1; injection e1 with e1; exact e1.symm
    subst hg
    exact .inr ⟨g', cap, cur, hv, hB, by rw [hb.block g' hC]; exact hh, hr⟩
theorem Mine.far {w : World} {B g n : Nat} {e : TypeId} {sz : Nat} {xs : List Value} (h : Mine w B e sz g n xs) {p : Addr} (hp : g ≠ p.block) (u : Value) : Mine (w.setCell p u) B e sz g n xs := by
  obtain ⟨h1, h2⟩ := h
  refine ⟨h1, ?_⟩
  rcases h2 with ⟨h2, _⟩ | ⟨g', cap, cur, hv, hB, hh, hr⟩
  · cases h2
  · have hg : g' = g := by injection hv with e1; injection e1 with e1; injection e1 with e1; exact e1.symm
    subst hg
    exact .inr ⟨g', cap, cur, hv, hB, by rw [Below.heap_setCell _ _ _ _ hp]; exact hh, hr⟩
theorem Mine.cell {w : World} {B g n : Nat} {e : TypeId} {xs : List Value} (h : Mine w B e 1 g n xs) {j : Nat} (hj : j < n) : ∃ v, w.cell? ⟨g, j, none⟩ = some v := by
  have hl := h.len
  exact ⟨_, (World.ownsRow.cellAt h j (by omega)).trans (List.getElem?_eq_getElem (by omega))⟩
theorem Mine.frozen {w : World} {B g n : Nat} {e : TypeId} {sz : Nat} {xs : List Value} (h : Mine w B e sz g n xs) (j : Nat) : w.frozen? ⟨g, j, none⟩ = false := World.ownsRow.frozenAt h j
theorem Mine.base {w : World} {B B' g n : Nat} {e : TypeId} {sz : Nat} {xs : List Value} (h : Mine w B e sz g n xs) (hB : B' ≤ B) : Mine w B' e sz g n xs := by
  obtain ⟨h1, h2⟩ := h
  refine ⟨h1, ?_⟩
  rcases h2 with h2 | ⟨g', cap, cur, hv, hb, hr⟩
  · exact .inl h2
  · exact .inr ⟨g', cap, cur, hv, by omega, hr⟩

/-- A block of three cells that read so. -/
def Box3 (w : World) (g : Nat) (v0 v1 v2 : Value) : Prop := g < w.heap.size ∧ w.cell? ⟨g, 0, none⟩ = some v0 ∧ w.cell? ⟨g, 1, none⟩ = some v1 ∧ w.cell? ⟨g, 2, none⟩ = some v2
theorem Box3.below {w w' : World} {g C : Nat} {v0 v1 v2 : Value} (h : Box3 w g v0 v1 v2) (hb : Below C w w') (hC : g < C) : Box3 w' g v0 v1 v2 := by
  obtain ⟨h0, h1, h2, h3⟩ := h
  exact ⟨Nat.lt_of_lt_of_le h0 hb.size, by rw [(bcell hb).1 _ _ hC]; exact h1, by rw [(bcell hb).1 _ _ hC]; exact h2, by rw [(bcell hb).1 _ _ hC]; exact h3⟩
theorem Box3.new_ (w : World) (t : TypeId) (v0 v1 v2 : Value) : Box3 (w.alloc (.cells #[v0, v1, v2] t)) w.heap.size v0 v1 v2 := by
  refine ⟨by simp, ?_, ?_, ?_⟩ <;> simp [go_sem]

/-- A row of one's own cells, the first k of which are those wanted. -/
theorem take_set {xs ys : List Value} {k : Nat} (h : xs.take k = ys.take k) (hx : k < xs.length) (hy : k < ys.length) : (xs.set k ys[k]).take (k + 1) = ys.take (k + 1) := by
  rw [List.take_succ_eq_append_getElem (by simpa using hx), List.take_succ_eq_append_getElem hy]
  rw [List.take_set_of_le (Nat.le_refl k), h]
  simp

/-- Only block R, of those that were there, has turned. -/
abbrev But (R : Nat) (w w' : World) : Prop := w.grownBy w' (some R)
theorem But.refl (R : Nat) (w : World) : But R w w := World.grownBy.refl w _
theorem But.of_below {R : Nat} {w w' : World} (h : Below w.heap.size w w') : But R w w' := ⟨h.os, h.tape, h.output, h.size, fun k hk _ => h.block k hk⟩
theorem But.trans {R : Nat} {a b c : World} (h : But R a b) (k : But R b c) : But R a c := World.grownBy.trans h k
theorem But.below {R B : Nat} {w w' : World} (h : But R w w') (hB : B ≤ w.heap.size) (hR : B ≤ R) : Below B w w' :=
  ⟨h.os, h.tape, h.output, h.size, fun k hk => h.block k (by omega) (fun e => by injection e with e; omega)⟩
theorem But.cell {R : Nat} {w w' : World} (h : But R w w') {b : Nat} (o : Nat) (hb : b < w.heap.size) (hR : b ≠ R) : w'.cell? ⟨b, o, none⟩ = w.cell? ⟨b, o, none⟩ :=
  World.cell?_of_block (w := w) (a := ⟨b, o, none⟩) (h.block b hb (fun e => by injection e with e; omega))
theorem But.frozen {R : Nat} {w w' : World} (h : But R w w') {b : Nat} (o : Nat) (hb : b < w.heap.size) (hR : b ≠ R) : w'.frozen? ⟨b, o, none⟩ = w.frozen? ⟨b, o, none⟩ :=
  World.frozen?_of_block (w := w) (a := ⟨b, o, none⟩) (h.block b hb (fun e => by injection e with e; omega))
theorem But.mine {R : Nat} {w w' : World} (h : But R w w') {B g n : Nat} {e : TypeId} {sz : Nat} {xs : List Value} (hx : Mine w B e sz g n xs) (hg : g ≠ R) : Mine w' B e sz g n xs :=
  World.ownsRow.kept hx h (.inr (fun e => hg (by simpa [Value.ownBlock] using e)))
theorem But.box {R : Nat} {w w' : World} (h : But R w w') {g : Nat} {v0 v1 v2 : Value} (hx : Box3 w g v0 v1 v2) (hg : g ≠ R) : Box3 w' g v0 v1 v2 := by
  obtain ⟨h0, h1, h2, h3⟩ := hx
  exact ⟨Nat.lt_of_lt_of_le h0 h.size, by rw [h.cell _ h0 hg]; exact h1, by rw [h.cell _ h0 hg]; exact h2, by rw [h.cell _ h0 hg]; exact h3⟩

/-- Bytes. -/
def bytesV (ns : List Int) : List Value := ns.map (Value.int .u8)
theorem bytesV_length (ns : List Int) : (bytesV ns).length = ns.length := List.length_map _
theorem Wo.Row.byte_ {w : World} {B : Nat} {A : Option Addr} {zs : List Int} (h : Row w B A (bytesV zs)) {k : Nat} (hk : k < zs.length) :
    ∃ ad, A = some ad ∧ ad.block < B ∧ w.cell? (ad.add k) = some (.int .u8 zs[k]) := by
  obtain ⟨ad, e, hb, hc⟩ := h.get (k := k) (by rw [bytesV_length]; exact hk)
  exact ⟨ad, e, hb, by rw [hc]; simp [bytesV]⟩

/-- The reader in block R: at most q picks have been made. -/
def Rd (w : World) (R : Nat) (q : Int) : Prop := ∃ (A : Option Addr) (c : Nat) (ns : List Int) (p : Int), w.heap[R]? = some (.cells #[.slice A ns.length c, .int .i64 p] 39 (0, 0)) ∧
  0 ≤ p ∧ p ≤ q ∧ ns.length ≤ 2000 ∧ Row w R A (bytesV ns) ∧ ∀ n ∈ ns, 0 ≤ n ∧ n < 256
theorem Rd.lt {w : World} {R : Nat} {q : Int} (h : Rd w R q) : R < w.heap.size := by
  obtain ⟨A, c, ns, p, hh, _⟩ := h
  rcases Nat.lt_or_ge R w.heap.size with h1 | h1
  · exact h1
  · rw [Array.getElem?_eq_none h1] at hh; cases hh
theorem Rd.more {w : World} {R : Nat} {q q' : Int} (h : Rd w R q) (hq : q ≤ q') : Rd w R q' := by
  obtain ⟨A, c, ns, p, h1, h2, h3, h4⟩ := h
  exact ⟨A, c, ns, p, h1, h2, by omega, h4⟩
theorem Rd.below {w w' : World} {R C : Nat} {q : Int} (h : Rd w R q) (hb : Below C w w') (hC : R < C) : Rd w' R q := by
  obtain ⟨A, c, ns, p, h1, h2, h3, h4, h5, h6⟩ := h
  exact ⟨A, c, ns, p, by rw [hb.block R hC]; exact h1, h2, h3, h4, h5.below hb (by omega), h6⟩
theorem Rd.but {w w' : World} {R g : Nat} {q : Int} (h : Rd w R q) (hb : But g w w') (hC : R < g) : Rd w' R q := by
  have hl := h.lt
  rcases Nat.lt_or_ge g w.heap.size with hg | hg
  · exact h.below (hb.below (B := g) (by omega) (Nat.le_refl _)) hC
  · exact h.below (hb.below (B := w.heap.size) (Nat.le_refl _) hg) hl

theorem xor_range (a b : Int) (ha : 0 ≤ a) (ha' : a < 9223372036854775808) (hb : 0 ≤ b) (hb' : b < 9223372036854775808) : 0 ≤ bits .xor .i64 a b := by
  obtain ⟨m, rfl⟩ := Int.eq_ofNat_of_zero_le ha
  obtain ⟨n, rfl⟩ := Int.eq_ofNat_of_zero_le hb
  have e : ∀ k : Nat, k < 9223372036854775808 → (BitVec.ofInt 64 (k : Int)).toNat = k := fun k hk => by
    rw [BitVec.ofInt_natCast, BitVec.toNat_ofNat]
    exact Nat.mod_eq_of_lt (by omega)
  have hx : m ^^^ n < 2 ^ 63 := Nat.xor_lt_two_pow (by omega) (by omega)
  show 0 ≤ IntKind.i64.wrap ((BitVec.ofInt 64 (m : Int) ^^^ BitVec.ofInt 64 (n : Int)).toNat : Int)
  rw [BitVec.toNat_xor, e m (by omega), e n (by omega), IntKind.wrap_i64]
  omega

/-- A pick's end. -/
def Picked (R : Nat) (q n : Int) (w : World) (e : Ending) (w' : World) : Prop := ∃ x : Int, e = .returned (.int .i64 x) ∧ 0 ≤ x ∧ x < n ∧ Rd w' R (q + 1) ∧ But R w w'

theorem set_reader {w : World} {R : Nat} {v0 v1 v : Value} (hh : w.heap[R]? = some (.cells #[v0, v1] 39 (0, 0))) : (w.setCell ⟨R, 1, none⟩ v).heap[R]? = some (.cells #[v0, v] 39 (0, 0)) := by
  simp [World.setCell, Array.getElem?_modify, hh]
theorem but_set (w : World) (R o : Nat) (v : Value) : But R w (w.setCell ⟨R, o, none⟩ v) :=
  ⟨rfl, rfl, rfl, by simp [World.setCell], fun k _ hne => Below.heap_setCell _ _ _ _ (fun e => hne (by rw [e]))⟩

set_option maxHeartbeats 4000000 in
theorem pick_any (R : Nat) (q n : Int) (w : World) (hR : Rd w R q) (hq : q ≤ 1000000000) (h1 : 1 ≤ n) (h2 : n ≤ 1000000) :
    Calls Try.prog 25 #[.pointer (some ⟨R, 0, none⟩), .int .i64 n] w (Picked R q n w) := by
  obtain ⟨A, c, ns, p, hh, hp0, hpq, hns, hrow, hby⟩ := hR
  have hc0 : w.cell? ⟨R, 0, none⟩ = some (.slice A ns.length c) := by simp [World.cell?, hh]
  have hc1 : w.cell? ⟨R, 1, none⟩ = some (.int .i64 p) := by simp [World.cell?, hh]
  have hf1 : w.frozen? ⟨R, 1, none⟩ = false := by simp [World.frozen?, hh]
  have hR' : Rd (w.setCell ⟨R, 1, none⟩ (.int .i64 (p + 1))) R (q + 1) :=
    ⟨A, c, ns, p + 1, set_reader hh, by omega, by omega, hns, hrow.below ((Below.refl R w).setCell (Nat.le_refl _) _) (Nat.le_refl _), hby⟩
  have hT := but_set w R 1 (.int .i64 (p + 1))
  by_cases h0 : ns.length = 0
  · have e0 : (((ns.length : Nat) : Int) == 0) = true := by rw [h0]; rfl
    go_enter Try.func25, Try.ntmps25
    go_wp2
    go_ret
    exact ⟨0, rfl, by omega, by omega, hR', hT⟩
  · have e0 : (((ns.length : Nat) : Int) == 0) = false := by rw [beq_eq_false_iff_ne]; omega
    have n0 : 0 < (ns.length : Int) := by omega
    by_cases hk : p < ns.length
    · obtain ⟨k, rfl⟩ := Int.eq_ofNat_of_zero_le hp0
      have hk' : k < ns.length := by omega
      obtain ⟨ad, rfl, hb, hc⟩ := hrow.byte_ hk'
      obtain ⟨b0, b1⟩ := hby _ (List.getElem_mem hk')
      have hnb : R ≠ (ad.add k).block := by rw [add_block]; omega
      have hc' : (w.setCell ⟨R, 1, none⟩ (.int .i64 (↑k + 1))).cell? (ad.add k) = some (.int .u8 ns[k]) := by
        rw [← hc]
        exact World.cell?_setCell_other w _ _ _ (fun e => hnb (by first | rw [e] | rw [← e]))
      clear hc hby
      go_enter Try.func25, Try.ntmps25
      go_wp2
      go_ret
      exact ⟨_, rfl, Int.emod_nonneg _ (by omega), Int.emod_lt_of_pos _ (by omega), hR', hT⟩
    · obtain ⟨k, rfl⟩ := Int.eq_ofNat_of_zero_le hp0
      have hi : k % ns.length < ns.length := Nat.mod_lt _ (by omega)
      have hj : (k * 7 + 3) % ns.length < ns.length := Nat.mod_lt _ (by omega)
      obtain ⟨ad, rfl, hb, hci⟩ := hrow.byte_ hi
      obtain ⟨ad', ea, _, hcj⟩ := hrow.byte_ hj
      obtain rfl : ad = ad' := by injection ea
      clear ea
      obtain ⟨b0, b1⟩ := hby _ (List.getElem_mem hi)
      obtain ⟨d0, d1⟩ := hby _ (List.getElem_mem hj)
      have far : ∀ m, (w.setCell ⟨R, 1, none⟩ (.int .i64 (↑k + 1))).cell? (ad.add m) = w.cell? (ad.add m) := fun m =>
        World.cell?_setCell_other w _ _ _ (fun e => by have := add_block ad m; first | (rw [← e] at this; simp at this; omega) | (rw [e] at this; simp at this; omega))
      have hci' := (far _).trans hci
      have hcj' := (far _).trans hcj
      have hc0' : (w.setCell ⟨R, 1, none⟩ (.int .i64 (↑k + 1))).cell? ⟨R, 0, none⟩ = some (.slice (some ad) ns.length c) := by
        rw [← hc0]
        exact World.cell?_setCell_other w _ _ _ (fun e => by injection e with _ e2; cases e2)
      clear hci hcj far hby
      go_enter Try.func25, Try.ntmps25
      go_wp2
      clear hc0 hc1 hf1 hh
      generalize w.setCell ⟨R, 1, none⟩ (.int .i64 (↑k + 1)) = w1 at *
      have i0 : 0 ≤ ((k : Nat) : Int) % (ns.length : Int) := Int.emod_nonneg _ (by omega)
      have i1 : ((k : Nat) : Int) % (ns.length : Int) < (ns.length : Int) := Int.emod_lt_of_pos _ n0
      have i2 : (((k : Nat) : Int) % (ns.length : Int)).toNat = k % ns.length := by rw [← Int.natCast_emod, Int.toNat_natCast]
      have j0 : 0 ≤ (((k : Nat) : Int) * 7 + 3) % (ns.length : Int) := Int.emod_nonneg _ (by omega)
      have j1 : (((k : Nat) : Int) * 7 + 3) % (ns.length : Int) < (ns.length : Int) := Int.emod_lt_of_pos _ n0
      have j2 : ((((k : Nat) : Int) * 7 + 3) % (ns.length : Int)).toNat = (k * 7 + 3) % ns.length := by
        rw [show ((k : Nat) : Int) * 7 + 3 = ((k * 7 + 3 : Nat) : Int) from by omega, ← Int.natCast_emod, Int.toNat_natCast]
      have k0 : 0 ≤ ((k : Nat) : Int) / (ns.length : Int) := Int.ediv_nonneg (by omega) (by omega)
      have k1 : ((k : Nat) : Int) / (ns.length : Int) ≤ 1000000000 := Int.le_trans (Int.ediv_le_self _ (by omega)) (by omega)
      go_quiet (fail)
      obtain ⟨X, hX, x0, x1⟩ : ∃ X : Int, ns[k % ns.length] * 131 + ns[(k * 7 + 3) % ns.length] * 1117 + ↑k * 29 + ↑k / ↑ns.length * 53 = X ∧ 0 ≤ X ∧ X < 1000000000000 := ⟨_, rfl, by omega, by omega⟩
      rw [hX]
      clear hX i0 i1 i2 j0 j1 j2 k0 k1
      have x2 := xor_range X (X / 64) x0 (by omega) (by omega) (by omega)
      go_wp2
      go_ret
      exact ⟨_, rfl, Int.emod_nonneg _ (by omega), Int.emod_lt_of_pos _ (by omega), hR'.below (Wo.Below.drewN (Below.refl (R + 1) _) nq) (by omega), hT.trans (.of_below (Wo.Below.drewN (Below.refl _ _) nq))⟩

/-! ### Texts. -/
/-- A text of at most m bytes has been drawn, with at most d picks. -/
def TextDrawn (R : Nat) (q d : Int) (m : Nat) (w : World) (e : Ending) (w' : World) : Prop := ∃ s : ByteArray, e = .returned (.string s) ∧ s.size ≤ m ∧ Rd w' R (q + d) ∧ But R w w'

theorem conv_one (w : World) (x : Int) (h0 : 0 ≤ x) (h1 : x < 256) : ∃ b : UInt8, (convert 22 9 (.slice (some ⟨w.heap.size, 0, none⟩) 1 1)).run Try.prog (w.alloc (.cells #[.int .u8 x] 5)) = .ok (.string ⟨#[b]⟩) (w.alloc (.cells #[.int .u8 x] 5)) := by
  refine ⟨UInt8.ofNat x.toNat, ?_⟩
  have hb : ((UInt8.ofNat x.toNat).toNat : Int) = x := by
    rw [UInt8.toNat_ofNat']
    omega
  refine run_convert_bytes_back (P := Try.prog) (w.alloc (.cells #[.int .u8 x] 5)) 22 9 5 ⟨w.heap.size, 0, none⟩ 1 [UInt8.ofNat x.toNat] Try.underlying22 Try.underlying5 Try.underlying9 ?_
  intro j hj
  simp only [List.length_cons, List.length_nil] at hj
  obtain rfl : j = 0 := by omega
  simp only [List.getElem_cons_zero, hb, add_zero]
  simp [go_sem]
theorem app_size (s : ByteArray) (b : UInt8) (k : Nat) (h : s.size ≤ k) : (s ++ (⟨#[b]⟩ : ByteArray)).size ≤ k + 1 := by
  rw [ByteArray.size_append]
  have : (⟨#[b]⟩ : ByteArray).size = 1 := rfl
  omega

theorem add_lit (g j : Nat) : (⟨g, 0, none⟩ : Addr).add j = ⟨g, j, none⟩ := by
  unfold Addr.add
  split
  · rename_i h; subst h; rfl
  · simp
theorem Mine.type_ne {w : World} {B B' g g' n n' : Nat} {e e' : TypeId} {sz sz' : Nat} {xs xs' : List Value} (h : Mine w B e sz g n xs) (h' : Mine w B' e' sz' g' n' xs') (he : e ≠ e') : g ≠ g' := by
  intro hg
  subst hg
  rcases h.2 with ⟨h1, _⟩ | ⟨k, _, cur, hv, _, hh, _⟩
  · cases h1
  · rcases h'.2 with ⟨h1, _⟩ | ⟨k', _, cur', hv', _, hh', _⟩
    · cases h1
    · have e1 : k = g := by injection hv with e1; injection e1 with e1; injection e1 with e1; exact e1.symm
      have e2 : k' = g := by injection hv' with e1; injection e1 with e1; injection e1 with e1; exact e1.symm
      subst e1
      subst e2
      rw [hh] at hh'
      injection hh' with h3
      injection h3 with _ h3
      exact he h3

theorem add_add (a : Addr) (n d : Nat) : (a.add n).add d = a.add (n + d) := by
  unfold Addr.add
  by_cases hn : n = 0
  · subst hn; simp
  · by_cases hd : d = 0
    · subst hd; simp
    · rw [if_neg hn, if_neg hd, if_neg (by omega)]
      simp; omega
theorem Wo.Row.take_ {w : World} {B : Nat} {A : Option Addr} {vs : List Value} (h : Row w B A vs) (n : Nat) : Row w B A (vs.take n) := by
  rcases h with rfl | ⟨ad, e, ha, hc⟩
  · exact .inl (by simp)
  · refine .inr ⟨ad, e, ha, fun j u hu => hc j u ?_⟩
    by_cases hj : j < n
    · rw [List.getElem?_take_of_lt hj] at hu; exact hu
    · rw [List.getElem?_eq_none (by simp; omega)] at hu; cases hu
theorem Wo.Row.drop_ {w : World} {B : Nat} {ad : Addr} {vs : List Value} (h : Row w B (some ad) vs) (n : Nat) : Row w B (some (ad.add n)) (vs.drop n) := by
  rcases h with rfl | ⟨ad', e, ha, hc⟩
  · exact .inl (by simp)
  · injection e with e
    subst e
    refine .inr ⟨_, rfl, by rw [add_block]; exact ha, fun j u hu => ?_⟩
    rw [List.getElem?_drop] at hu
    rw [add_add]
    exact hc _ u hu
theorem row_news {w : World} {B : Nat} {ad : Addr} {vs : List Value} (h : Row w B (some ad) vs) : ∀ j u, vs[j]? = some u → w.cell? (ad.add j) = some u := by
  rcases h with rfl | ⟨ad', e, _, hc⟩
  · intro j u hu
    simp at hu
  · injection e with e
    subst e
    exact hc

theorem run_append_nothing {P : Program} (w : World) (base : Nat) (t ty e : TypeId) (i : TypeInfo) (size : Nat) (ht : P.underlying t = some (.slice e)) (hi : P.info? e = some i)
    (v : Value) (n : Nat) (xs : List Value) (hown : w.ownsRow base e size v n xs) (c : Nat) : (Builtin.append_ #[t, t] ty #[v, .slice none 0 c]).run P w = .ok v w := by
  rcases hown.2 with ⟨rfl, rfl⟩ | ⟨g, cap, cur, rfl, _, _, hle, _⟩
  · simp [Builtin.append_, run_underlying ht, sizeOf, typeInfo, hi, Builtin.lenOf, Builtin.firstCells]
  · simp [Builtin.append_, run_underlying ht, sizeOf, typeInfo, hi, Builtin.lenOf, Builtin.firstCells, hle, storeCells]

theorem wpList_append_row {P : Program} (w : World) {ops : Array Oper} {rest : List Oper} {o : Oper} {a : Act} {Q : Exit → Act → World → Prop} (hgd : o.guard = none) (s x : Operand) (t : TypeId)
    (ho : o.op = .call { callee := .builtin .append, args := #[s, x], argTypes := #[t, t] })
    (base : Nat) (e : TypeId) (i : TypeInfo) (z : Value) (size bytes : Nat) (ht : P.underlying t = some (.slice e)) (hi : P.info? e = some i) (hz : i.zero = some z)
    (hsize : i.size = size) (hby : i.bytes = bytes) (hzs : z.cells.size = size) (hsz : 0 < size)
    (v : Value) (n : Nat) (xs : List Value) (hs : a.eval s = v) (hown : w.ownsRow base e size v n xs)
    (B : Nat) (A : Option Addr) (m c : Nat) (news : List Value) (hx : a.eval x = .slice A m c) (hr : Row w B A news) (hl : news.length = m * size) (h1 : ∀ u ∈ news, u.oneCell' = true)
    (h63 : n + m ≤ maxLen) (hbytes : (n + m) * bytes ≤ 140737488355328) (hbase : base ≤ w.heap.size)
    (h : ∀ v' w', w'.ownsRow base e size v' (n + m) (xs ++ news) → w.grownBy w' v.ownBlock → wpList P ops Q rest (a.put o.dst v') w') : wpList P ops Q (o :: rest) a w := by
  rcases A with _ | ad
  · have hnil : news = [] := by
      rcases hr with hr | ⟨ad, e, _⟩
      · exact hr
      · cases e
    subst hnil
    have hm : m = 0 := by
      rcases Nat.eq_zero_or_pos m with hm | hm
      · exact hm
      · have := Nat.mul_pos hm hsz
        simp at hl
        omega
    subst hm
    refine wpList_plain hgd fun K hK => ?_
    have hrun := run_append_nothing (P := P) w base t o.type e i size ht hi v n xs hown c
    unfold Oper.wp
    simp [execOp, ho, resolve, invoke, builtin, hs, hx, hrun, Result.andThen]
    exact hK _ _ (h v w (by simpa using hown) (World.grownBy.refl w _))
  · exact wpList_append_own w hgd s x t ho base e i z size bytes ht hi hz hsize hby hzs hsz v n xs hs hown ad m c news hx hl (row_news hr) h1 h63 hbytes hbase fun v' w' h2 h3 _ => h v' w' h2 h3

theorem step_append_row {P : Program} (w : World) {ops : Array Oper} {o : Oper} {a : Act} {K : Act → World → Prop} {Q : Exit → Act → World → Prop} {E : Prop} (hgd : o.guard = none) (s x : Operand) (t : TypeId)
    (ho : o.op = .call { callee := .builtin .append, args := #[s, x], argTypes := #[t, t] })
    (base : Nat) (e : TypeId) (i : TypeInfo) (z : Value) (size bytes : Nat) (ht : P.underlying t = some (.slice e)) (hi : P.info? e = some i) (hz : i.zero = some z)
    (hsize : i.size = size) (hby : i.bytes = bytes) (hzs : z.cells.size = size) (hsz : 0 < size)
    (v : Value) (n : Nat) (xs : List Value) (hs : a.eval s = v) (hown : w.ownsRow base e size v n xs)
    (B : Nat) (A : Option Addr) (m c : Nat) (news : List Value) (hx : a.eval x = .slice A m c) (hr : Row w B A news) (hl : news.length = m * size) (h1 : ∀ u ∈ news, u.oneCell' = true)
    (h63 : n + m ≤ maxLen) (hbytes : (n + m) * bytes ≤ 140737488355328) (hbase : base ≤ w.heap.size)
    (h : ∀ v' w', w'.ownsRow base e size v' (n + m) (xs ++ news) → w.grownBy w' v.ownBlock → K (a.put o.dst v') w') :
    if Region.wanted o (yielded ops a.tmps) = true then Oper.wp P o a w K Q else E := by
  have hw : Region.wanted o (yielded ops a.tmps) = true := by simp [Region.wanted, hgd]
  rw [if_pos hw]
  rcases A with _ | ad
  · have hnil : news = [] := by
      rcases hr with hr | ⟨ad, e, _⟩
      · exact hr
      · cases e
    subst hnil
    have hm : m = 0 := by
      rcases Nat.eq_zero_or_pos m with hm | hm
      · exact hm
      · have := Nat.mul_pos hm hsz
        simp at hl
        omega
    subst hm
    have hrun := run_append_nothing (P := P) w base t o.type e i size ht hi v n xs hown c
    unfold Oper.wp
    simp [execOp, ho, resolve, invoke, builtin, hs, hx, hrun, Result.andThen]
    exact h v w (by simpa using hown) (World.grownBy.refl w _)
  · exact wp_append_own w s x t ho base e i z size bytes ht hi hz hsize hby hzs hsz v n xs hs hown ad m c news hx hl (row_news hr) h1 h63 hbytes hbase fun v' w' h2 h3 _ => h v' w' h2 h3

theorem ints_cells (zs : List Int) : ∀ u ∈ ints zs, u.oneCell' = true := by
  intro u hu
  obtain ⟨z, _, rfl⟩ := List.mem_map.1 hu
  rfl
theorem nil_own {w : World} {B : Nat} (hB : B ≤ w.heap.size) (e : TypeId) (size : Nat) : (w.alloc (.cells #[] e)).ownsRow B e size (.slice (some ⟨w.heap.size, 0, none⟩) 0 0) 0 [] :=
  ⟨by simp, .inr ⟨w.heap.size, 0, #[], rfl, hB, heap_alloc_new w _, Nat.le_refl _, by decide, by simp, by simp⟩⟩
/-- Block g is just these three cells. -/
def Blk (w : World) (g : Nat) (t : TypeId) (v0 v1 v2 : Value) : Prop := w.heap[g]? = some (.cells #[v0, v1, v2] t (0, 0))
section
variable {w w' : World} {g : Nat} {t : TypeId} {v0 v1 v2 : Value}
theorem Blk.lt (h : Blk w g t v0 v1 v2) : g < w.heap.size := by
  rcases Nat.lt_or_ge g w.heap.size with h1 | h1
  · exact h1
  · unfold Blk at h; rw [Array.getElem?_eq_none h1] at h; cases h
theorem Blk.reads (h : Blk w g t v0 v1 v2) : w.cell? ⟨g, 0, none⟩ = some v0 ∧ w.cell? ⟨g, 1, none⟩ = some v1 ∧ w.cell? ⟨g, 2, none⟩ = some v2 ∧ ∀ o, w.frozen? ⟨g, o, none⟩ = false := by
  unfold Blk at h
  exact ⟨by simp [World.cell?, h], by simp [World.cell?, h], by simp [World.cell?, h], fun o => by simp [World.frozen?, h]⟩
theorem Blk.new_ (w : World) (t : TypeId) (v0 v1 v2 : Value) : Blk (w.alloc (.cells #[v0, v1, v2] t)) w.heap.size t v0 v1 v2 := heap_alloc_new w _
theorem Blk.below {C : Nat} (h : Blk w g t v0 v1 v2) (hb : Below C w w') (hC : g < C) : Blk w' g t v0 v1 v2 := (hb.block g hC).trans h
theorem Blk.but {R : Nat} (h : Blk w g t v0 v1 v2) (hb : But R w w') (hR : g ≠ R) : Blk w' g t v0 v1 v2 := (hb.block g h.lt (fun e => hR (by injection e))).trans h
theorem Blk.far (h : Blk w g t v0 v1 v2) {p : Addr} (hp : g ≠ p.block) (u : Value) : Blk (w.setCell p u) g t v0 v1 v2 := (Below.heap_setCell w p u g hp).trans h
theorem Blk.set0 (h : Blk w g t v0 v1 v2) (u : Value) : Blk (w.setCell ⟨g, 0, none⟩ u) g t u v1 v2 := by unfold Blk at h ⊢; simp [World.setCell, Array.getElem?_modify, h]
theorem Blk.set1 (h : Blk w g t v0 v1 v2) (u : Value) : Blk (w.setCell ⟨g, 1, none⟩ u) g t v0 u v2 := by unfold Blk at h ⊢; simp [World.setCell, Array.getElem?_modify, h]
theorem Blk.set2 (h : Blk w g t v0 v1 v2) (u : Value) : Blk (w.setCell ⟨g, 2, none⟩ u) g t v0 v1 u := by unfold Blk at h ⊢; simp [World.setCell, Array.getElem?_modify, h]
theorem Blk.grown {row : Option Nat} (h : Blk w g t v0 v1 v2) (hb : w.grownBy w' row) (hg : some g ≠ row) : Blk w' g t v0 v1 v2 := (hb.block g h.lt hg).trans h
theorem But.set_new {R : Nat} {a : World} (h : But R a w) (hB : a.heap.size ≤ g) (o : Nat) (u : Value) : But R a (w.setCell ⟨g, o, none⟩ u) :=
  ⟨h.os, h.tape, h.output, by simpa [World.setCell] using h.size, fun k hk hne => (Below.heap_setCell w _ u k (by show k ≠ g; omega)).trans (h.block k hk hne)⟩
theorem Rd.far {R : Nat} {q : Int} (h : Rd w R q) (hR : R < g) (o : Nat) (u : Value) : Rd (w.setCell ⟨g, o, none⟩ u) R q :=
  h.below ((Below.refl g w).setCell (p := ⟨g, o, none⟩) (Nat.le_refl g) u) hR
end

/-- A world that below B is as W was. -/
structure Later (B : Nat) (W : World) where
  v : World
  h : Below B W v
instance later_nonempty {B : Nat} {W : World} : Nonempty (Later B W) := ⟨⟨W, Below.refl _ _⟩⟩
def Later.w {B : Nat} {W : World} (x : Later B W) : World := x.v
theorem Later.b {B : Nat} {W : World} (x : Later B W) : Below B W x.w := x.h
theorem Later.size {B : Nat} {W : World} (hB : B ≤ W.heap.size) (x : Later B W) : B ≤ x.w.heap.size := Nat.le_trans hB x.h.size
def InLater (B : Nat) (W : World) (w' : World) : Prop := ∃ x : Later B W, w' = x.w
theorem Later.cell {B : Nat} {W : World} {p : Addr} {v : Value} (h : W.cell? p = some v) (hp : p.block < B) (x : Later B W) : x.w.cell? p = some v := (x.h.cell hp).trans h
theorem Wo.Row.later {B : Nat} {W : World} {A : Option Addr} {vs : List Value} (h : Row W B A vs) (x : Later B W) : Row x.w B A vs := h.below x.h (Nat.le_refl _)
theorem Later.call {P : Program} {f : FuncId} {args : Array Value} {v : Value} {B : Nat} {W : World} (hB : B ≤ W.heap.size) (x : Later B W) (h : Calls P f args x.w (Ret v x.w)) :
    Calls P f args x.w fun e w'' => e = .returned v ∧ ∃ y : Later B W, w'' = y.w :=
  h.mono fun _ w'' ⟨he, hb⟩ => ⟨he, ⟨w'', x.h.trans (hb.mono (Later.size hB x))⟩, rfl⟩
theorem wp_region_later {P : Program} {id : Nat} {Q : Exit → Act → World → Prop} {a : Act} {w : World} {l : List Oper} (B : Nat) (hm : P.follows .mixedOrders = true) (hB : Region.lexB .any l.toArray = true)
    (h : wpQuiet P l.toArray (fun w' => ∃ x : Later B w, w' = x.w) (fun a' => ∀ w', (∃ x : Later B w, w' = x.w) → Q .normal a' w') l a) : (Code.region id l.toArray true).wp P Q a w :=
  wp_region_quiet (C := fun w' => ∃ x : Later B w, w' = x.w) hm hB ⟨⟨w.drew, (Below.refl B w).drew⟩, rfl⟩ (by simpa using h)
/-- A code: its bytes, as it came in. -/
def Code_ (w : World) (A : Option Addr) (c : Nat) (bs : List Int) : Prop := Row w w.heap.size A (bytesV bs) ∧ bs.length ≤ c ∧ c ≤ maxLen ∧ ∀ n ∈ bs, 0 ≤ n ∧ n < 256
theorem Code_.below {w w' : World} {A : Option Addr} {c : Nat} {bs : List Int} (h : Code_ w A c bs) (hb : Below w.heap.size w w') : Code_ w' A c bs :=
  ⟨(h.1.below hb (Nat.le_refl _)).more hb.size, h.2⟩

/-- A reader, new. -/
def Opened (w : World) (e : Ending) (w' : World) : Prop := e = .returned (.pointer (some ⟨w.heap.size, 0, none⟩)) ∧ Rd w' w.heap.size 0 ∧ Below w.heap.size w w'

theorem Wo.Row.take {w : World} {B : Nat} {A : Option Addr} {vs : List Value} (h : Row w B A vs) (k : Nat) : Row w B A (vs.take k) := by
  rcases h with rfl | ⟨ad, e, hb, hc⟩
  · exact .inl (by simp)
  · refine .inr ⟨ad, e, hb, fun j v hv => hc j v ?_⟩
    rw [List.getElem?_take] at hv
    split at hv
    · exact hv
    · cases hv

theorem l6Open_any (A : Option Addr) (c : Nat) (bs : List Int) (w : World) (h : Code_ w A c bs) :
    Calls Try.prog 24 #[.slice A bs.length c] w (Opened w) := by
  obtain ⟨hr, hn, hc, hb⟩ := h
  have hc' := hc
  unfold maxLen at hc'
  by_cases h2 : bs.length ≤ 2000
  · go_enter Try.func24, Try.ntmps24
    go_wp2
    go_ret
    have al := (Below.refl w.heap.size w).alloc (Nat.le_refl _) (.cells #[.slice A bs.length c, .int .i64 0] 39)
    exact ⟨rfl, ⟨A, c, bs, 0, heap_alloc_new w _, by omega, by omega, h2, hr.below al (Nat.le_refl _), hb⟩, al⟩
  · have hlt : (bs.take 2000).length = 2000 := by rw [List.length_take]; omega
    have hcap : 2000 ≤ c := by omega
    have h22 : (2000 : Int) < (bs.length : Int) := by omega
    go_enter Try.func24, Try.ntmps24
    go_wp2
    go_ret
    have al := (Below.refl w.heap.size w).alloc (Nat.le_refl _) (.cells #[.slice A 2000 c, .int .i64 0] 39)
    refine ⟨rfl, ⟨A, c, bs.take 2000, 0, ?_, by omega, by omega, by omega, ?_, fun n hn => hb n (List.mem_of_mem_take hn)⟩, al⟩
    · rw [hlt]
      exact heap_alloc_new w _
    · have := (hr.take 2000).below al (Nat.le_refl _)
      rw [show bytesV (bs.take 2000) = (bytesV bs).take 2000 from by simp [bytesV, List.map_take]]
      exact this

theorem Blk.row3 {w : World} {g : Nat} {t : TypeId} {v0 v1 v2 : Value} (h : Blk w g t v0 v1 v2) : Row w w.heap.size (some ⟨g, 0, none⟩) [v0, v1, v2] := by
  obtain ⟨h0, h1, h2, _⟩ := h.reads
  refine .inr ⟨_, rfl, h.lt, fun j u hu => ?_⟩
  rw [add_lit]
  match j with
  | 0 => simp at hu; subst hu; exact h0
  | 1 => simp at hu; subst hu; exact h1
  | 2 => simp at hu; subst hu; exact h2
  | j + 3 => simp at hu
theorem own_below {w w' : World} {B C n sz : Nat} {e : TypeId} {v : Value} {xs : List Value} (h : w.ownsRow B e sz v n xs) (hb : Below C w w') (hC : w.heap.size ≤ C) : w'.ownsRow B e sz v n xs := by
  obtain ⟨h1, h2⟩ := h
  refine ⟨h1, ?_⟩
  rcases h2 with h2 | ⟨g, cap, cur, hv, hB, hh, hr⟩
  · exact .inl h2
  · refine .inr ⟨g, cap, cur, hv, hB, ?_, hr⟩
    have hl : g < w.heap.size := by
      rcases Nat.lt_or_ge g w.heap.size with h3 | h3
      · exact h3
      · rw [Array.getElem?_eq_none h3] at hh; cases hh
    rw [hb.block g (by omega)]
    exact hh
theorem new_three (w : World) (v0 v1 v2 : Value) (t : TypeId) : ∀ j u, [v0, v1, v2][j]? = some u → (w.alloc (.cells #[v0, v1, v2] t)).cell? ((⟨w.heap.size, 0, none⟩ : Addr).add j) = some u :=
  World.news_of_block (cs := #[v0, v1, v2]) (heap_alloc_new w _)

end Go.Proofs.Ytnojhfidljipoaa
