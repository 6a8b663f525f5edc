/-
  Walks: the reader of a code, and its picks: whatever the code, a pick lies in its range.
-/
import Derived.Test.YtblknnifccmpkaaCopy
import Derived.Maps.AppendAt
import Derived.Maps.RangeWalk
namespace Go.Proofs.Ytblknnifccmpkaa
open Go.RowKit Wo Pu

/-- Only block R, of those that were there, has turned. -/
abbrev But (R : Nat) (w w' : World) : Prop := w.grownBy w' (some R)
theorem But.refl (R : Nat) (w : World) : But R w w := World.grownBy.refl w _
theorem But.of_below {R : Nat} {w w' : World} (h : Below w.heap.size w w') : But R w w' := ⟨h.os, h.tape, h.output, h.size, fun k hk _ => h.block k hk⟩
theorem But.trans {R : Nat} {a b c : World} (h : But R a b) (k : But R b c) : But R a c := World.grownBy.trans h k
theorem But.below {R B : Nat} {w w' : World} (h : But R w w') (hB : B ≤ w.heap.size) (hR : B ≤ R) : Below B w w' :=
  ⟨h.os, h.tape, h.output, h.size, fun k hk => h.block k (by omega) (fun e => by injection e with e; omega)⟩
theorem But.cell {R : Nat} {w w' : World} (h : But R w w') {b : Nat} (o : Nat) (hb : b < w.heap.size) (hR : b ≠ R) : w'.cell? ⟨b, o, none⟩ = w.cell? ⟨b, o, none⟩ :=
  World.cell?_of_block (w := w) (a := ⟨b, o, none⟩) (h.block b hb (fun e => by injection e with e; omega))
theorem But.frozen {R : Nat} {w w' : World} (h : But R w w') {b : Nat} (o : Nat) (hb : b < w.heap.size) (hR : b ≠ R) : w'.frozen? ⟨b, o, none⟩ = w.frozen? ⟨b, o, none⟩ :=
  World.frozen?_of_block (w := w) (a := ⟨b, o, none⟩) (h.block b hb (fun e => by injection e with e; omega))
theorem But.mine {R : Nat} {w w' : World} (h : But R w w') {B g n : Nat} {e : TypeId} {sz : Nat} {xs : List Value} (hx : Mine w B e sz g n xs) (hg : g ≠ R) : Mine w' B e sz g n xs :=
  World.ownsRow.kept hx h (.inr (fun e => hg (by simpa [Value.ownBlock] using e)))
theorem But.box {R : Nat} {w w' : World} (h : But R w w') {g : Nat} {v0 v1 v2 : Value} (hx : Box3 w g v0 v1 v2) (hg : g ≠ R) : Box3 w' g v0 v1 v2 := by
  obtain ⟨h0, h1, h2, h3⟩ := hx
  exact ⟨Nat.lt_of_lt_of_le h0 h.size, by rw [h.cell _ h0 hg]; exact h1, by rw [h.cell _ h0 hg]; exact h2, by rw [h.cell _ h0 hg]; exact h3⟩

/-- Bytes. -/
def bytesV (ns : List Int) : List Value := ns.map (Value.int .u8)
theorem bytesV_length (ns : List Int) : (bytesV ns).length = ns.length := List.length_map _
theorem Wo.Row.byte_ {w : World} {B : Nat} {A : Option Addr} {zs : List Int} (h : Row w B A (bytesV zs)) {k : Nat} (hk : k < zs.length) :
    ∃ ad, A = some ad ∧ ad.block < B ∧ w.cell? (ad.add k) = some (.int .u8 zs[k]) := by
  obtain ⟨ad, e, hb, hc⟩ := h.get (k := k) (by rw [bytesV_length]; exact hk)
  exact ⟨ad, e, hb, by rw [hc]; simp [bytesV]⟩

/-- The reader in block R: at most q picks have been made. -/
def Rd (w : World) (R : Nat) (q : Int) : Prop := ∃ (A : Option Addr) (c : Nat) (ns : List Int) (p : Int), w.heap[R]? = some (.cells #[.slice A ns.length c, .int .i64 p] 108 (0, 0)) ∧
  0 ≤ p ∧ p ≤ q ∧ ns.length ≤ 2000 ∧ Row w R A (bytesV ns) ∧ ∀ n ∈ ns, 0 ≤ n ∧ n < 256
theorem Rd.lt {w : World} {R : Nat} {q : Int} (h : Rd w R q) : R < w.heap.size := by
  obtain ⟨A, c, ns, p, hh, _⟩ := h
  rcases Nat.lt_or_ge R w.heap.size with h1 | h1
  · exact h1
  · rw [Array.getElem?_eq_none h1] at hh; cases hh
theorem Rd.more {w : World} {R : Nat} {q q' : Int} (h : Rd w R q) (hq : q ≤ q') : Rd w R q' := by
  obtain ⟨A, c, ns, p, h1, h2, h3, h4⟩ := h
  exact ⟨A, c, ns, p, h1, h2, by omega, h4⟩
theorem Rd.below {w w' : World} {R C : Nat} {q : Int} (h : Rd w R q) (hb : Below C w w') (hC : R < C) : Rd w' R q := by
  obtain ⟨A, c, ns, p, h1, h2, h3, h4, h5, h6⟩ := h
  exact ⟨A, c, ns, p, by rw [hb.block R hC]; exact h1, h2, h3, h4, h5.below hb (by omega), h6⟩
theorem Rd.but {w w' : World} {R g : Nat} {q : Int} (h : Rd w R q) (hb : But g w w') (hC : R < g) : Rd w' R q := by
  have hl := h.lt
  rcases Nat.lt_or_ge g w.heap.size with hg | hg
  · exact h.below (hb.below (B := g) (by omega) (Nat.le_refl _)) hC
  · exact h.below (hb.below (B := w.heap.size) (Nat.le_refl _) hg) hl

theorem xor_range (a b : Int) (ha : 0 ≤ a) (ha' : a < 9223372036854775808) (hb : 0 ≤ b) (hb' : b < 9223372036854775808) : 0 ≤ bits .xor .i64 a b := by
  obtain ⟨m, rfl⟩ := Int.eq_ofNat_of_zero_le ha
  obtain ⟨n, rfl⟩ := Int.eq_ofNat_of_zero_le hb
  have e : ∀ k : Nat, k < 9223372036854775808 → (BitVec.ofInt 64 (k : Int)).toNat = k := fun k hk => by
    rw [BitVec.ofInt_natCast, BitVec.toNat_ofNat]
    exact Nat.mod_eq_of_lt (by omega)
  have hx : m ^^^ n < 2 ^ 63 := Nat.xor_lt_two_pow (by omega) (by omega)
  show 0 ≤ IntKind.i64.wrap ((BitVec.ofInt 64 (m : Int) ^^^ BitVec.ofInt 64 (n : Int)).toNat : Int)
  rw [BitVec.toNat_xor, e m (by omega), e n (by omega), IntKind.wrap_i64]
  omega

/-- A pick's end. -/
def Picked (R : Nat) (q n : Int) (w : World) (e : Ending) (w' : World) : Prop := ∃ x : Int, e = .returned (.int .i64 x) ∧ 0 ≤ x ∧ x < n ∧ Rd w' R (q + 1) ∧ But R w w'

theorem set_reader {w : World} {R : Nat} {v0 v1 v : Value} (hh : w.heap[R]? = some (.cells #[v0, v1] 108 (0, 0))) : (w.setCell ⟨R, 1, none⟩ v).heap[R]? = some (.cells #[v0, v] 108 (0, 0)) := by
  simp [World.setCell, Array.getElem?_modify, hh]
theorem but_set (w : World) (R o : Nat) (v : Value) : But R w (w.setCell ⟨R, o, none⟩ v) :=
  ⟨rfl, rfl, rfl, by simp [World.setCell], fun k _ hne => Below.heap_setCell _ _ _ _ (fun e => hne (by rw [e]))⟩

set_option maxHeartbeats 4000000 in
theorem pick_any (R : Nat) (q n : Int) (w : World) (hR : Rd w R q) (hq : q ≤ 1000000000) (h1 : 1 ≤ n) (h2 : n ≤ 1000000) :
    Calls Try.prog 78 #[.pointer (some ⟨R, 0, none⟩), .int .i64 n] w (Picked R q n w) := by
  obtain ⟨A, c, ns, p, hh, hp0, hpq, hns, hrow, hby⟩ := hR
  have hc0 : w.cell? ⟨R, 0, none⟩ = some (.slice A ns.length c) := by simp [World.cell?, hh]
  have hc1 : w.cell? ⟨R, 1, none⟩ = some (.int .i64 p) := by simp [World.cell?, hh]
  have hf1 : w.frozen? ⟨R, 1, none⟩ = false := by simp [World.frozen?, hh]
  have hR' : Rd (w.setCell ⟨R, 1, none⟩ (.int .i64 (p + 1))) R (q + 1) :=
    ⟨A, c, ns, p + 1, set_reader hh, by omega, by omega, hns, hrow.below ((Below.refl R w).setCell (Nat.le_refl _) _) (Nat.le_refl _), hby⟩
  have hT := but_set w R 1 (.int .i64 (p + 1))
  by_cases h0 : ns.length = 0
  · have e0 : (((ns.length : Nat) : Int) == 0) = true := by rw [h0]; rfl
    go_enter Try.func78, Try.ntmps78
    go_wp2
    go_ret
    exact ⟨0, rfl, by omega, by omega, hR', hT⟩
  · have e0 : (((ns.length : Nat) : Int) == 0) = false := by rw [beq_eq_false_iff_ne]; omega
    have n0 : 0 < (ns.length : Int) := by omega
    by_cases hk : p < ns.length
    · obtain ⟨k, rfl⟩ := Int.eq_ofNat_of_zero_le hp0
      have hk' : k < ns.length := by omega
      obtain ⟨ad, rfl, hb, hc⟩ := hrow.byte_ hk'
      obtain ⟨b0, b1⟩ := hby _ (List.getElem_mem hk')
      have hnb : R ≠ (ad.add k).block := by rw [add_block]; omega
      have hc' : (w.setCell ⟨R, 1, none⟩ (.int .i64 (↑k + 1))).cell? (ad.add k) = some (.int .u8 ns[k]) := by
        rw [← hc]
        exact World.cell?_setCell_other w _ _ _ (fun e => hnb (by first | rw [e] | rw [← e]))
      clear hc hby
      go_enter Try.func78, Try.ntmps78
      go_wp2
      go_ret
      exact ⟨_, rfl, Int.emod_nonneg _ (by omega), Int.emod_lt_of_pos _ (by omega), hR', hT⟩
    · obtain ⟨k, rfl⟩ := Int.eq_ofNat_of_zero_le hp0
      have hi : k % ns.length < ns.length := Nat.mod_lt _ (by omega)
      have hj : (k * 7 + 3) % ns.length < ns.length := Nat.mod_lt _ (by omega)
      obtain ⟨ad, rfl, hb, hci⟩ := hrow.byte_ hi
      obtain ⟨ad', ea, _, hcj⟩ := hrow.byte_ hj
      obtain rfl : ad = ad' := by injection ea
      clear ea
      obtain ⟨b0, b1⟩ := hby _ (List.getElem_mem hi)
      obtain ⟨d0, d1⟩ := hby _ (List.getElem_mem hj)
      have far : ∀ m, (w.setCell ⟨R, 1, none⟩ (.int .i64 (↑k + 1))).cell? (ad.add m) = w.cell? (ad.add m) := fun m =>
        World.cell?_setCell_other w _ _ _ (fun e => by have := add_block ad m; first | (rw [← e] at this; simp at this; omega) | (rw [e] at this; simp at this; omega))
      have hci' := (far _).trans hci
      have hcj' := (far _).trans hcj
      have hc0' : (w.setCell ⟨R, 1, none⟩ (.int .i64 (↑k + 1))).cell? ⟨R, 0, none⟩ = some (.slice (some ad) ns.length c) := by
        rw [← hc0]
        exact World.cell?_setCell_other w _ _ _ (fun e => by injection e with _ e2; cases e2)
      clear hci hcj far hby
      go_enter Try.func78, Try.ntmps78
      go_wp2
      clear hc0 hc1 hf1 hh
      generalize w.setCell ⟨R, 1, none⟩ (.int .i64 (↑k + 1)) = w1 at *
      have i0 : 0 ≤ ((k : Nat) : Int) % (ns.length : Int) := Int.emod_nonneg _ (by omega)
      have i1 : ((k : Nat) : Int) % (ns.length : Int) < (ns.length : Int) := Int.emod_lt_of_pos _ n0
      have i2 : (((k : Nat) : Int) % (ns.length : Int)).toNat = k % ns.length := by rw [← Int.natCast_emod, Int.toNat_natCast]
      have j0 : 0 ≤ (((k : Nat) : Int) * 7 + 3) % (ns.length : Int) := Int.emod_nonneg _ (by omega)
      have j1 : (((k : Nat) : Int) * 7 + 3) % (ns.length : Int) < (ns.length : Int) := Int.emod_lt_of_pos _ n0
      have j2 : ((((k : Nat) : Int) * 7 + 3) % (ns.length : Int)).toNat = (k * 7 + 3) % ns.length := by
        rw [show ((k : Nat) : Int) * 7 + 3 = ((k * 7 + 3 : Nat) : Int) from by omega, ← Int.natCast_emod, Int.toNat_natCast]
      have k0 : 0 ≤ ((k : Nat) : Int) / (ns.length : Int) := Int.ediv_nonneg (by omega) (by omega)
      have k1 : ((k : Nat) : Int) / (ns.length : Int) ≤ 1000000000 := Int.le_trans (Int.ediv_le_self _ (by omega)) (by omega)
      go_quiet (fail)
      obtain ⟨X, hX, x0, x1⟩ : ∃ X : Int, ns[k % ns.length] * 131 + ns[(k * 7 + 3) % ns.length] * 1117 + ↑k * 29 + ↑k / ↑ns.length * 53 = X ∧ 0 ≤ X ∧ X < 1000000000000 := ⟨_, rfl, by omega, by omega⟩
      rw [hX]
      clear hX i0 i1 i2 j0 j1 j2 k0 k1
      have x2 := xor_range X (X / 64) x0 (by omega) (by omega) (by omega)
      go_wp2
      go_ret
      exact ⟨_, rfl, Int.emod_nonneg _ (by omega), Int.emod_lt_of_pos _ (by omega), hR'.below (Wo.Below.drewN (Below.refl (R + 1) _) nq) (by omega), hT.trans (.of_below (Wo.Below.drewN (Below.refl _ _) nq))⟩

/-! ### Texts. -/
/-- A text of at most m bytes has been drawn, with at most d picks. -/
def TextDrawn (R : Nat) (q d : Int) (m : Nat) (w : World) (e : Ending) (w' : World) : Prop := ∃ s : ByteArray, e = .returned (.string s) ∧ s.size ≤ m ∧ Rd w' R (q + d) ∧ But R w w'
end Go.Proofs.Ytblknnifccmpkaa
